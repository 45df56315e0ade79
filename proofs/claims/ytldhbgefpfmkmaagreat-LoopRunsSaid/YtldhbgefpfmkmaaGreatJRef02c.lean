/- Layer 2's reference: sums of lists, and quotients rounded up. -/
import Derived.Test.YtldhbgefpfmkmaaGreatJRef02b
import Derived.Test.YtldhbgefpfmkmaaGreatJBase
namespace Go.Proofs.YtldhbgefpfmkmaaGreat
open Go.ChangeShapes Go.WideShapes Go.ChangeAt Go.RowKit

/-- Whether q is n by d, rounded up. -/
def Bits.up (n d q : Nat) : Bool := decide (n ≤ q * d ∧ (q = 0 ∨ (q - 1) * d < n))

theorem Bits.mul_lt {a b : Nat} (ha : a < 18446744073709551616) (hb : b < 18446744073709551616) : a * b < 2 ^ 128 := by
  have : a * b ≤ 18446744073709551615 * 18446744073709551615 := Nat.mul_le_mul (by omega) (by omega)
  omega

/-- The sum of what is above 0. -/
def Bits.total (l : List Int) : Nat := l.foldl (fun s n => s + n.toNat) 0
theorem Bits.total_step (l : List Int) (k : Nat) (h : k < l.length) : Bits.total (l.take (k + 1)) = Bits.total (l.take k) + (l[k]?.getD 0).toNat := by
  unfold Bits.total
  rw [List.take_add_one, List.foldl_append]
  simp [List.getElem?_eq_getElem h]
theorem Bits.total_le (l : List Int) (hl : ∀ n ∈ l, I64 n) (k : Nat) (hk : k ≤ l.length) : Bits.total (l.take k) ≤ k * 9223372036854775807 := by
  induction k with
  | zero => simp [Bits.total]
  | succ k ih =>
    rw [Bits.total_step l k (by omega)]
    have h1 := ih (by omega)
    have h2 := (hl (l[k]?.getD 0) (by rw [List.getElem?_eq_getElem (by omega)]; exact List.getElem_mem _)).2
    omega

set_option maxHeartbeats 2000000 in
set_option maxRecDepth 100000 in
theorem ref_total (p : Option Addr) (cap : Nat) (l : List Int) (w : World) (hs : Ints .i64 w p l) (hl : ∀ n ∈ l, I64 n) (hb : l.length ≤ 9223372036854775807) :
    Calls Tryz.prog 89 #[.slice p l.length cap] w fun e w' => e = .returned (.agg (Bits.num (Bits.total l))) ∧ Below w.heap.size w w' := by
  have HS := Lib.hid hs
  have HL := Lib.hid hl
  have HT := Lib.hid (Bits.total_le l hl)
  clear hs hl
  obtain ⟨n, hn⟩ : ∃ n, n = l.length := ⟨_, rfl⟩
  rw [← hn] at hb ⊢
  have HN := Lib.hid hn
  clear hn
  go_enter Tryz.func89, Tryz.ntmps89
  go_wp2_with (first | ((with_reducible refine wpList_alloc_as rfl _ rfl _ (numZero _) ?_); (try simp only [World.size_alloc])) | (with_reducible refine wpList_build_as rfl _ rfl _ numBuilt ?_) | ((with_reducible refine wpList_store_rowAs rfl 130 _ _ rfl ((w.heap.size + 1)) (Bits.num 0) ?_ ?_ 130 (Bits.num 0) 128 ?_ numInfo (Bits.num_size _) (Bits.num_size _) (num_oneCell _) ?_); exact rfl; exact rfl; exact (by first | (with_reducible exact heap_1_0 _ _) | (with_reducible exact heap_2_0 _ _ _) | (with_reducible exact heap_2_1 _ _ _) | (with_reducible exact heap_3_0 _ _ _ _) | (with_reducible exact heap_3_1 _ _ _ _) | (with_reducible exact heap_3_2 _ _ _ _) | (with_reducible exact heap_4_0 _ _ _ _ _) | (with_reducible exact heap_4_1 _ _ _ _ _) | (with_reducible exact heap_4_2 _ _ _ _ _) | (with_reducible exact heap_4_3 _ _ _ _ _) | (with_reducible exact heap_5_0 _ _ _ _ _ _) | (with_reducible exact heap_5_1 _ _ _ _ _ _) | (with_reducible exact heap_5_2 _ _ _ _ _ _) | (with_reducible exact heap_5_3 _ _ _ _ _ _) | (with_reducible exact heap_5_4 _ _ _ _ _ _) | (with_reducible exact heap_6_0 _ _ _ _ _ _ _) | (with_reducible exact heap_6_1 _ _ _ _ _ _ _) | (with_reducible exact heap_6_2 _ _ _ _ _ _ _) | (with_reducible exact heap_6_3 _ _ _ _ _ _ _) | (with_reducible exact heap_6_4 _ _ _ _ _ _ _) | (with_reducible exact heap_6_5 _ _ _ _ _ _ _) | simp only [heap_alloc_past, heap_alloc_at, World.size_alloc, Nat.add_assoc, Nat.reduceAdd, Nat.lt_add_right_iff_pos, Nat.add_lt_add_iff_left, Nat.reduceLT, Nat.zero_lt_succ, Nat.lt_add_one]); (first | rw [row_1_0] | rw [row_2_0] | rw [row_2_1] | rw [row_3_0] | rw [row_3_1] | rw [row_3_2] | rw [row_4_0] | rw [row_4_1] | rw [row_4_2] | rw [row_4_3] | rw [row_5_0] | rw [row_5_1] | rw [row_5_2] | rw [row_5_3] | rw [row_5_4] | rw [row_6_0] | rw [row_6_1] | rw [row_6_2] | rw [row_6_3] | rw [row_6_4] | rw [row_6_5] | simp only [setRow_alloc_past, setRow_alloc_at, World.size_alloc, Nat.add_assoc, Nat.reduceAdd, Nat.lt_add_right_iff_pos, Nat.add_lt_add_iff_left, Nat.reduceLT, Nat.zero_lt_succ, Nat.lt_add_one])))
  have h0 := below2 w (.cells (Bits.num 0) 130) (.cells (Bits.num 0) 130)
  have h1 : ((w.alloc (.cells (Bits.num 0) 130)).alloc (.cells (Bits.num 0) 130)).heap[w.heap.size]? = some (.cells (Bits.num 0) 130 (0, 0)) := (by first | (with_reducible exact heap_1_0 _ _) | (with_reducible exact heap_2_0 _ _ _) | (with_reducible exact heap_2_1 _ _ _) | (with_reducible exact heap_3_0 _ _ _ _) | (with_reducible exact heap_3_1 _ _ _ _) | (with_reducible exact heap_3_2 _ _ _ _) | (with_reducible exact heap_4_0 _ _ _ _ _) | (with_reducible exact heap_4_1 _ _ _ _ _) | (with_reducible exact heap_4_2 _ _ _ _ _) | (with_reducible exact heap_4_3 _ _ _ _ _) | (with_reducible exact heap_5_0 _ _ _ _ _ _) | (with_reducible exact heap_5_1 _ _ _ _ _ _) | (with_reducible exact heap_5_2 _ _ _ _ _ _) | (with_reducible exact heap_5_3 _ _ _ _ _ _) | (with_reducible exact heap_5_4 _ _ _ _ _ _) | (with_reducible exact heap_6_0 _ _ _ _ _ _ _) | (with_reducible exact heap_6_1 _ _ _ _ _ _ _) | (with_reducible exact heap_6_2 _ _ _ _ _ _ _) | (with_reducible exact heap_6_3 _ _ _ _ _ _ _) | (with_reducible exact heap_6_4 _ _ _ _ _ _ _) | (with_reducible exact heap_6_5 _ _ _ _ _ _ _) | simp only [heap_alloc_past, heap_alloc_at, World.size_alloc, Nat.add_assoc, Nat.reduceAdd, Nat.lt_add_right_iff_pos, Nat.add_lt_add_iff_left, Nat.reduceLT, Nat.zero_lt_succ, Nat.lt_add_one])
  have h2 : ((w.alloc (.cells (Bits.num 0) 130)).alloc (.cells (Bits.num 0) 130)).heap[w.heap.size + 1]? = some (.cells (Bits.num 0) 130 (0, 0)) := (by first | (with_reducible exact heap_1_0 _ _) | (with_reducible exact heap_2_0 _ _ _) | (with_reducible exact heap_2_1 _ _ _) | (with_reducible exact heap_3_0 _ _ _ _) | (with_reducible exact heap_3_1 _ _ _ _) | (with_reducible exact heap_3_2 _ _ _ _) | (with_reducible exact heap_4_0 _ _ _ _ _) | (with_reducible exact heap_4_1 _ _ _ _ _) | (with_reducible exact heap_4_2 _ _ _ _ _) | (with_reducible exact heap_4_3 _ _ _ _ _) | (with_reducible exact heap_5_0 _ _ _ _ _ _) | (with_reducible exact heap_5_1 _ _ _ _ _ _) | (with_reducible exact heap_5_2 _ _ _ _ _ _) | (with_reducible exact heap_5_3 _ _ _ _ _ _) | (with_reducible exact heap_5_4 _ _ _ _ _ _) | (with_reducible exact heap_6_0 _ _ _ _ _ _ _) | (with_reducible exact heap_6_1 _ _ _ _ _ _ _) | (with_reducible exact heap_6_2 _ _ _ _ _ _ _) | (with_reducible exact heap_6_3 _ _ _ _ _ _ _) | (with_reducible exact heap_6_4 _ _ _ _ _ _ _) | (with_reducible exact heap_6_5 _ _ _ _ _ _ _) | simp only [heap_alloc_past, heap_alloc_at, World.size_alloc, Nat.add_assoc, Nat.reduceAdd, Nat.lt_add_right_iff_pos, Nat.add_lt_add_iff_left, Nat.reduceLT, Nat.zero_lt_succ, Nat.lt_add_one])
  generalize (w.alloc (.cells (Bits.num 0) 130)).alloc (.cells (Bits.num 0) 130) = w0 at *
  have H0 := Lib.hid h0
  have H1 := Lib.hid h1
  have H2 := Lib.hid h2
  clear h0 h1 h2
  go_loopw [4] (fun i wr => ∃ k : Nat, k ≤ n ∧ i = .int .i64 k ∧ Below w.heap.size w wr ∧ wr.heap[w.heap.size]? = some (.cells (Bits.num 0) 130 (0, 0)) ∧ wr.heap[w.heap.size + 1]? = some (.cells (Bits.num (Bits.total (l.take k))) 130 (0, 0))) (fun i _ => n - (intOf i).toNat)
  case atStart => exact ⟨0, by omega, rfl, H0.out, H1.out, H2.out⟩
  case round =>
    clear H0 H1 H2
    obtain ⟨k, hk, rfl, h0, h1, h2⟩ := hrel
    have H0 := Lib.hid h0
    have H1 := Lib.hid h1
    have H2 := Lib.hid h2
    clear h0 h1 h2
    by_cases hlt : k < n
    · have hkl : k < l.length := by have := HN.out; omega
      obtain ⟨b, off, rfl, hbw, hc⟩ := HS.out.pos (by omega)
      have hcell := hc k (by omega)
      have HC := Lib.hid hcell
      have hcell' : wr.cell? ⟨b, off + k, none⟩ = some (.int .i64 (l[k]?.getD 0)) := by rw [H0.out.cell (p := ⟨b, off + k, none⟩) hbw]; exact hcell
      have hI := HL.out (l[k]?.getD 0) (by rw [List.getElem?_eq_getElem hkl]; exact List.getElem_mem _)
      obtain ⟨hI1, hI2⟩ := hI
      have ht := Bits.total_step l k hkl
      have hle := HT.out (k + 1) (by omega)
      have hle0 := HT.out k (by omega)
      generalize l[k]?.getD 0 = x at *
      clear hc hkl hcell
      have HT1 := Lib.hid ht
      have HLE := Lib.hid hle
      have HLE0 := Lib.hid hle0
      clear ht hle hle0
      by_cases hpos : 0 < x
      · obtain ⟨y, rfl⟩ : ∃ y : Nat, x = y := ⟨Int.toNat x, by omega⟩
        rw [Int.toNat_natCast] at HT1
        have hof := ref_of 0 y (by omega) (by omega)
        rw [Nat.zero_mul, Nat.zero_add] at hof
        have hof' : ∀ w, Calls Tryz.prog 104 #[.int .u64 0, .int .u64 y] w _ := hof
        clear hof
        have hadd := ref_numAdd (Bits.total (l.take k)) y (by have := HLE0.out; have : k * 9223372036854775807 ≤ 9223372036854775807 * 9223372036854775807 := Nat.mul_le_mul_right _ (by omega); omega) (by omega)
        have hsum : Bits.sum (Bits.total (l.take k)) y = Bits.total (l.take (k + 1)) := by
          unfold Bits.sum
          rw [← HT1.out, if_pos]
          have := HLE.out
          have : (k + 1) * 9223372036854775807 ≤ 9223372036854775807 * 9223372036854775807 := Nat.mul_le_mul_right _ (by omega)
          omega
        rw [hsum] at hadd
        clear hsum
        obtain ⟨T, hT⟩ : ∃ T, T = Bits.total (l.take k) := ⟨_, rfl⟩
        obtain ⟨T', hT'⟩ : ∃ T', T' = Bits.total (l.take (k + 1)) := ⟨_, rfl⟩
        rw [← hT] at H2 hadd
        rw [← hT'] at hadd
        have HT' := Lib.hid hT'
        clear hT hT'
        go_wp2
        rw [show decide (0 < y) = true by simp; omega]
        refine wp_region_D mixed [11] (st2 (fun w' => Below w.heap.size w w' ∧ w'.heap[w.heap.size]? = some (.cells (Bits.num 0) 130 (0, 0)) ∧ w'.heap[w.heap.size + 1]? = some (.cells (Bits.num T) 130 (0, 0)))
          (fun w' => Below w.heap.size w w' ∧ w'.heap[w.heap.size]? = some (.cells (Bits.num 0) 130 (0, 0)) ∧ w'.heap[w.heap.size + 1]? = some (.cells (Bits.num T') 130 (0, 0)))) ⟨below_drew H0.out, H1.out, H2.out⟩ ?_
        refine wpAnyD_take 0 0 (v := .agg (Bits.num T)) rfl (by kernel_rfl) (by kernel_rfl) (by kernel_rfl) (EffD.run rfl rfl (fun wd hS => ?_)) (.inl (by kernel_rfl)) ?_
        · exact wp_load_row 130 _ rfl (w.heap.size + 1) rfl 130 (Bits.num T) (0, 0) _ hS.2.2 Tryz.underlying130 rfl (by rw [Bits.num_size]; exact numInfo) ⟨rfl, hS⟩
        simp only [act_norm]
        refine wpAnyD_take 1 0 rfl (by kernel_rfl) (by kernel_rfl) (by kernel_rfl) (EffD.pure rfl (fun _ => rfl) (fun _ h => h)) (.inr fun _ => EffD.pure rfl (fun _ => rfl) (fun _ h => h)) ?_
        simp only [act_norm]
        refine wpAnyD_take 2 0 rfl (by kernel_rfl) (by kernel_rfl) (by kernel_rfl) (EffD.pure rfl (fun _ => rfl) (fun _ h => h)) (.inr fun _ => EffD.pure rfl (fun _ => rfl) (fun _ h => h)) ?_
        simp only [act_norm]
        refine wpAnyD_take 3 0 (v := .pointer (some ⟨b, off + k, none⟩)) rfl (by kernel_rfl) (by kernel_rfl) (by kernel_rfl) (EffD.run rfl rfl (fun wd hS => ?_)) (.inr fun _ => EffD.run rfl rfl (fun wd hS => ?_)) ?_
        · (go_wp2; exact ⟨rfl, hS⟩)
        · (go_wp2; exact ⟨rfl, hS⟩)
        simp only [act_norm]
        refine wpAnyD_take 4 0 (v := .int .i64 y) rfl (by kernel_rfl) (by kernel_rfl) (by kernel_rfl) (EffD.run rfl rfl (fun wd hS => ?_)) (.inl (by kernel_rfl)) ?_
        · (have hcd : wd.cell? ⟨b, off + k, none⟩ = some (.int .i64 y) := by rw [hS.1.cell (p := ⟨b, off + k, none⟩) hbw]; exact HC.out); go_wp2; exact ⟨rfl, hS⟩
        simp only [act_norm]
        refine wpAnyD_take 5 0 (v := .int .u64 y) rfl (by kernel_rfl) (by kernel_rfl) (by kernel_rfl) (EffD.run rfl rfl (fun wd hS => ?_)) (.inr fun _ => EffD.run rfl rfl (fun wd hS => ?_)) ?_
        · (go_wp2; exact ⟨rfl, hS⟩)
        · (go_wp2; exact ⟨rfl, hS⟩)
        simp only [act_norm]
        refine wpAnyD_take 6 0 (v := .agg (Bits.num y)) rfl (by kernel_rfl) (by kernel_rfl) (by kernel_rfl) (EffD.run rfl rfl (fun wd hS => ?_)) (.inl (by kernel_rfl)) ?_
        · (go_wp2_with fail; (with_reducible refine (hof' wd).mono ?_); rintro e w'' ⟨rfl, hb⟩; exact ⟨rfl, hS.1.trans (hb.mono hS.1.size), (hb.block _ (lt_of_heap hS.2.1)).trans hS.2.1, (hb.block _ (lt_of_heap hS.2.2)).trans hS.2.2⟩)
        simp only [act_norm]
        refine wpAnyD_take 7 0 (v := .tuple #[.agg (Bits.num T'), .bool (Bits.fits T y)]) rfl (by kernel_rfl) (by kernel_rfl) (by kernel_rfl) (EffD.run rfl rfl (fun wd hS => ?_)) (.inl (by kernel_rfl)) ?_
        · (go_wp2_with fail; (with_reducible refine (hadd wd).mono ?_); rintro e w'' ⟨rfl, hb⟩; exact ⟨rfl, hS.1.trans (hb.mono hS.1.size), (hb.block _ (lt_of_heap hS.2.1)).trans hS.2.1, (hb.block _ (lt_of_heap hS.2.2)).trans hS.2.2⟩)
        simp only [act_norm]
        refine wpAnyD_take 8 0 rfl (by kernel_rfl) (by kernel_rfl) (by kernel_rfl) (EffD.pure rfl (fun _ => rfl) (fun _ h => h)) (.inr fun _ => EffD.pure rfl (fun _ => rfl) (fun _ h => h)) ?_
        simp only [act_norm]
        refine wpAnyD_take 9 0 (v := .agg (Bits.num T')) rfl (by kernel_rfl) (by kernel_rfl) (by kernel_rfl) (EffD.run rfl rfl (fun wd hS => ?_)) (.inr fun _ => EffD.run rfl rfl (fun wd hS => ?_)) ?_
        · (go_wp2; exact ⟨rfl, hS⟩)
        · (go_wp2; exact ⟨rfl, hS⟩)
        simp only [act_norm]
        refine wpAnyD_take 10 0 (v := .bool (Bits.fits T y)) rfl (by kernel_rfl) (by kernel_rfl) (by kernel_rfl) (EffD.run rfl rfl (fun wd hS => ?_)) (.inr fun _ => EffD.run rfl rfl (fun wd hS => ?_)) ?_
        · (go_wp2; exact ⟨rfl, hS⟩)
        · (go_wp2; exact ⟨rfl, hS⟩)
        simp only [act_norm]
        refine wpAnyD_flag 11 0 (v := undef) rfl (by kernel_rfl) (EffD.run rfl rfl (fun wd hS => ?_)) ?_
        · exact wp_store_row 130 _ _ rfl (w.heap.size + 1) (Bits.num T') rfl rfl 130 (Bits.num T) hS.2.2 (by rw [Bits.num_size]; exact numInfo) (by rw [Bits.num_size, Bits.num_size]) (num_oneCell _) ⟨rfl, below_setRow hS.1 (by omega) _, (setRow_other _ _ _ _ (by omega)).trans hS.2.1, setRow_heap _ _ _ _ _ _ hS.2.2⟩
        simp only [act_norm]
        refine wpAnyD_done 1 (by kernel_rfl) (fun wd hS => ?_) _
        have H0' := Lib.hid hS.1
        have H1' := Lib.hid hS.2.1
        have H2' := Lib.hid hS.2.2
        clear hS
        go_wp2
        go_roundw
        case rel => exact ⟨k + 1, by omega, by go_num, H0'.out, H1'.out, by rw [← HT'.out]; exact H2'.out⟩
        case measure => simp [intOf]; omega
      · have HX : Hid (x.toNat = 0) := by show x.toNat = 0; omega
        go_wp2
        go_roundw
        case rel => exact ⟨k + 1, by omega, by go_num, H0.out, H1.out, by rw [HT1.out, HX.out]; exact H2.out⟩
        case measure => simp [intOf]; omega
    · obtain rfl : k = n := by omega
      have HE : Hid (Bits.total (l.take k) = Bits.total l) := by show Bits.total (l.take k) = Bits.total l; rw [HN.out, List.take_length]
      have h2 := H2.out
      rw [HE.out] at h2
      have H2' := Lib.hid h2
      clear h2
      go_wp2_with (first | ((with_reducible refine wpList_load_rowAs rfl 130 _ rfl ((w.heap.size + 1)) ?_ 130 (Bits.num (Bits.total l)) (0, 0) _ 128 ?_ Tryz.underlying130 rfl numInfo (Bits.num_size _) ?_); exact rfl; exact (H2'.out)) | ((with_reducible refine wpList_store_rowAs rfl 130 _ _ rfl (w.heap.size) (Bits.num (Bits.total l)) ?_ ?_ 130 (Bits.num 0) 128 ?_ numInfo (Bits.num_size _) (Bits.num_size _) (num_oneCell _) ?_); exact rfl; exact rfl; exact (H1.out)))
      refine bodyPost_ret (v := .agg (Bits.num (Bits.total l))) ?_ rfl ⟨rfl, below_setRow H0.out (Nat.le_refl _) _⟩
      exact results_cell_row rfl _ _ w.heap.size 130 (Bits.num (Bits.total l)) (0, 0) _ rfl (setRow_heap _ _ _ _ _ _ H1.out) Tryz.underlying130 rfl (by rw [Bits.num_size]; exact numInfo)
end Go.Proofs.YtldhbgefpfmkmaaGreat
