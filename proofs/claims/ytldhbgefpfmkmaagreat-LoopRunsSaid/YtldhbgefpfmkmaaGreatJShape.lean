/- Layer 54: what a shape may be, where it is, and its load: the program's. -/
import Derived.Test.YtldhbgefpfmkmaaGreatJShapeD
import Derived.Test.YtldhbgefpfmkmaaGreatJWide3
import Derived.Test.YtldhbgefpfmkmaaGreatJBase
namespace Go.Proofs.YtldhbgefpfmkmaaGreat
open Go.ChangeShapes Go.WideShapes Go.ChangeAt Go.RowKit

set_option maxRecDepth 100000 in
theorem shp_check (s : Adv) (w : World) : Calls Tryz.prog 18 #[.agg #[.int .i64 s.tick, .int .i64 s.load, .int .i64 s.want, .int .i64 s.repl, .int .i64 s.why]] w fun e w' => e = .returned (.int .i64 (Shp.code s)) ∧ Below w.heap.size w w' := by
  have HC : Hid (Shp.code s = if s.tick < 1 ∨ 5 < s.tick then 14 else if s.load < 0 ∨ s.want < s.load then 4 else if s.repl < 1 ∨ 2147483648 < s.repl then 1 else 0) := rfl
  obtain ⟨r, hr⟩ : ∃ r, r = Shp.code s := ⟨_, rfl⟩
  rw [← hr] at HC ⊢
  obtain ⟨kd, lo, hi, p, ph⟩ := s
  simp only at HC ⊢
  clear hr
  go_enter Tryz.func18, Tryz.ntmps18
  go_wp2
  all_goals go_ret
  all_goals exact ⟨ret_int (by have h := HC.out; (repeat' split at h) <;> omega), below1 _ _⟩

theorem shp_within (n p : Int) (hn : I64 n) (h1 : 1 ≤ p) (h2 : p ≤ 2147483648) (w : World) :
    Calls Tryz.prog 62 #[.int .i64 n, .int .i64 p] w fun e w' => e = .returned (.int .i64 (n % p)) ∧ w' = w := by
  obtain ⟨hn1, hn2⟩ := hn
  have m0 := Int.emod_nonneg n (b := p) (by omega)
  have m1 := Int.emod_lt_of_pos n (b := p) (by omega)
  by_cases hs : 0 ≤ n
  · have HE : Hid ((n % p + p) % p = n % p) := by show _ = _; rw [Int.add_emod_right, Int.emod_eq_of_lt m0 m1]
    have q0 := Int.emod_nonneg (n % p + p) (b := p) (by omega)
    go_enter Tryz.func62, Tryz.ntmps62
    go_wp2
    go_ret
    exact ⟨ret_int HE.out, rfl⟩
  · have l := Int.emod_nonneg (-n) (b := p) (by omega)
    have u := Int.emod_lt_of_pos (-n) (b := p) (by omega)
    have hm1 : n.tmod p = -(-n % p) := Sat.tmod_neg_of n p (by omega) h1
    have HE : Hid ((-(-n % p) + p) % p = n % p) := by
      show _ = _
      have e := Int.mul_ediv_add_emod (-n) p
      have e2 : -(-n % p) + p = n + p * (-n / p + 1) := by rw [Int.mul_add, Int.mul_one]; omega
      rw [e2, Int.add_mul_emod_self_left]
    have HE2 : Hid (-(-n % p) % p = n % p) := by show _ = _; rw [← HE.out, Int.add_emod_right]
    go_enter Tryz.func62, Tryz.ntmps62
    go_wp2
    go_ret
    exact ⟨ret_int HE2.out, rfl⟩

set_option maxHeartbeats 1000000 in
set_option maxRecDepth 100000 in
theorem shp_place (s : Adv) (hs : s.In) (hc : Shp.code s = 0) (t : Int) (ht : I64 t) (w : World) :
    Calls Tryz.prog 33 #[.agg #[.int .i64 s.tick, .int .i64 s.load, .int .i64 s.want, .int .i64 s.repl, .int .i64 s.why], .int .i64 t] w fun e w' => e = .returned (.int .i64 (Shp.spot s t)) ∧ Below w.heap.size w w' := by
  have C := shp_check s
  rw [hc] at C
  have ho := Shp.ok_of hc
  have hp1 := ho.p1
  have hp2 := ho.p2
  have he : Shp.spot s t = (t % s.repl + s.why % s.repl) % s.repl := rfl
  have F1 := Lib.hid (shp_within t s.repl ht hp1 hp2)
  have F2 := Lib.hid (shp_within s.why s.repl hs.2.2.2.2 hp1 hp2)
  have a0 := Int.emod_nonneg t (b := s.repl) (by omega)
  have a1 := Int.emod_lt_of_pos t (b := s.repl) (by omega)
  have b0 := Int.emod_nonneg s.why (b := s.repl) (by omega)
  have b1 := Int.emod_lt_of_pos s.why (b := s.repl) (by omega)
  obtain ⟨kd, lo, hi, p, ph⟩ := s
  simp only at *
  obtain ⟨a, ea⟩ : ∃ a, a = t % p := ⟨_, rfl⟩
  obtain ⟨b, eb⟩ : ∃ b, b = ph % p := ⟨_, rfl⟩
  rw [← ea] at F1 a0 a1 he
  rw [← eb] at F2 b0 b1 he
  have F3 := Lib.hid (shp_within (a + b) p ⟨by omega, by omega⟩ hp1 hp2)
  rw [← he] at F3
  obtain ⟨r, er⟩ : ∃ r, r = Shp.spot ⟨kd, lo, hi, p, ph⟩ t := ⟨_, rfl⟩
  rw [← er] at F3 ⊢
  have HC := Lib.hid C
  clear ea eb er he ho hs hc C
  have M0 := Lib.hid ((Mem.start w).alloc (.cells #[.int .i64 kd, .int .i64 lo, .int .i64 hi, .int .i64 p, .int .i64 ph] 44))
  have K0 := Lib.hid (M0.out.heap 0 rfl)
  go_enter Tryz.func33, Tryz.ntmps33
  go_wp2_with ((with_reducible refine wpList_load_rowAs rfl 44 _ rfl (w.heap.size) ?_ 44 #[.int .i64 kd, .int .i64 lo, .int .i64 hi, .int .i64 p, .int .i64 ph] (0, 0) _ 5 ?_ Tryz.underlying44 rfl (by kernel_rfl) ?_ ?_); exact rfl; exact K0.out; exact rfl)
  (with_reducible refine (HC.out _).mono ?_)
  rintro e w1 ⟨rfl, hb1⟩
  have M1 := Lib.hid (M0.out.call hb1)
  have k3 := M1.out.cell 0 3 rfl rfl
  have k4 := M1.out.cell 0 4 rfl rfl
  clear hb1 M0 K0
  go_wp2_with fail
  go_quiet (first
    | (go_at_call 62; with_reducible exact Calls.quiet_of_same (F1.out _))
    | (go_at_call 62; with_reducible exact Calls.quiet_of_same (F2.out _))
    | (go_at_call 62; with_reducible exact Calls.quiet_of_same (F3.out _)))
  go_wp2
  go_ret
  exact ⟨rfl, (M1.out.drewN _).below⟩

set_option maxHeartbeats 1000000 in
set_option maxRecDepth 100000 in
theorem shp_up (kd lo hi ph : Int) (p k d : Nat) (e : hi - lo = d) (hlo : 0 ≤ lo) (hhi : hi ≤ 9223372036854775807) (hp : 1 ≤ p) (hp2 : p ≤ 2147483648) (hk : k ≤ p) (w : World) :
    Calls Tryz.prog 34 #[.agg #[.int .i64 kd, .int .i64 lo, .int .i64 hi, .int .i64 p, .int .i64 ph], .int .i64 k] w fun e w' => e = .returned (.int .i64 (lo + ((k * d / p : Nat) : Int))) ∧ Below w.heap.size w w' := by
  have hbd : k * d < 340282366920938463463374607431768211456 := by
    have h1 : k * d ≤ 2147483648 * 9223372036854775807 := Nat.mul_le_mul (by omega) (by omega)
    omega
  have m1 : ∀ w, Calls Tryz.prog 64 #[.int .u64 k, .int .u64 d] w fun e w' => e = .returned (.agg (cells2 (k * d))) ∧ Below w.heap.size w w' := wide_mul k d (by omega) (by omega)
  have d1 : ∀ w, Calls Tryz.prog 63 #[.agg (cells2 (k * d)), .int .u64 p] w fun e w' => e = .returned (.tuple #[.agg (cells2 (Wide.quo (k * d) p)), .int .u64 (Wide.rest (k * d) p), .bool (!(p == 0))]) ∧ Below w.heap.size w w' := wide_div' (k * d) p hbd (by omega)
  have hq : Wide.quo (k * d) p = k * d / p := rfl
  have hql : k * d / p ≤ d := by
    rw [Nat.div_le_iff_le_mul (by omega)]
    have := Nat.mul_le_mul_right d hk
    rw [Nat.mul_comm d p]; omega
  rw [hq] at d1
  obtain ⟨q, eq⟩ : ∃ q, q = k * d / p := ⟨_, rfl⟩
  rw [← eq] at d1 hql ⊢
  have s1 : ∀ w, Calls Tryz.prog 65 #[.agg (cells2 q)] w fun e w' => e = .returned (.int .i64 (Bits.small q)) ∧ Below w.heap.size w w' := wide_small' q
  have hsm : Bits.small q = q := by unfold Bits.small; rw [if_pos (by omega)]
  rw [hsm] at s1
  obtain ⟨x, ex⟩ : ∃ x, x = k * d := ⟨_, rfl⟩
  rw [← ex] at m1 d1
  obtain ⟨r, er⟩ : ∃ r, r = Wide.rest x p := ⟨_, rfl⟩
  rw [← er] at d1
  obtain ⟨b, eb⟩ : ∃ b, b = (!(p == 0)) := ⟨_, rfl⟩
  rw [← eb] at d1
  have M1 := Lib.hid m1
  have D1 := Lib.hid d1
  have S1 := Lib.hid s1
  clear m1 d1 s1 hq hsm eq ex er eb hbd
  have M0 := Lib.hid ((Mem.start w).alloc (.cells #[.int .i64 kd, .int .i64 lo, .int .i64 hi, .int .i64 p, .int .i64 ph] 44))
  have hst := stab_mem (w := w) (bs := [(w.heap.size, .cells #[.int .i64 kd, .int .i64 lo, .int .i64 hi, .int .i64 p, .int .i64 ph] 44)])
  go_enter Tryz.func34, Tryz.ntmps34
  go_wp2_with fail
  refine wp_region_E mixed [18] hst (M0.out.drewN 1) ?_
  refine wpAnyE_take 0 rfl (by kernel_rfl) (by kernel_rfl) (by kernel_rfl) (fun _ _ _ h => h) hst (EffB.pure rfl (fun _ => rfl)) (.inr (EffB.pure rfl (fun _ => rfl))) ?_
  simp only [act_norm]
  refine wpAnyE_take 1 (v := .int .u64 k) rfl (by kernel_rfl) (by kernel_rfl) (by kernel_rfl) (fun _ _ _ h => h) hst (EffB.run rfl rfl (fun wd hS => ?_)) (.inl (by kernel_rfl)) ?_
  · go_wp2; exact ⟨rfl, Below.refl _ _⟩
  simp only [act_norm]
  refine wpAnyE_take 2 (v := .pointer (some ⟨w.heap.size, 2, none⟩)) rfl (by kernel_rfl) (by kernel_rfl) (by kernel_rfl) (fun _ _ _ h => h) hst (EffB.run rfl rfl (fun wd hS => ?_)) (.inr (EffB.run rfl rfl (fun wd hS => ?_))) ?_
  · (go_wp2; exact ⟨rfl, Below.refl _ _⟩)
  · (go_wp2; exact ⟨rfl, Below.refl _ _⟩)
  simp only [act_norm]
  refine wpAnyE_take 3 (v := .int .i64 hi) rfl (by kernel_rfl) (by kernel_rfl) (by kernel_rfl) (fun _ _ _ h => h) hst (EffB.run rfl rfl (fun wd hS => ?_)) (.inl (by kernel_rfl)) ?_
  · (have c2 : wd.cell? ⟨w.heap.size, 2, none⟩ = some (.int .i64 hi) := by rw [cell_of_row _ _ _ _ _ _ (hS.heap 0 rfl)]; rfl); go_wp2; exact ⟨rfl, Below.refl _ _⟩
  simp only [act_norm]
  refine wpAnyE_take 4 (v := .pointer (some ⟨w.heap.size, 1, none⟩)) rfl (by kernel_rfl) (by kernel_rfl) (by kernel_rfl) (fun _ _ _ h => h) hst (EffB.run rfl rfl (fun wd hS => ?_)) (.inr (EffB.run rfl rfl (fun wd hS => ?_))) ?_
  · (go_wp2; exact ⟨rfl, Below.refl _ _⟩)
  · (go_wp2; exact ⟨rfl, Below.refl _ _⟩)
  simp only [act_norm]
  refine wpAnyE_take 5 (v := .int .i64 lo) rfl (by kernel_rfl) (by kernel_rfl) (by kernel_rfl) (fun _ _ _ h => h) hst (EffB.run rfl rfl (fun wd hS => ?_)) (.inl (by kernel_rfl)) ?_
  · (have c2 : wd.cell? ⟨w.heap.size, 1, none⟩ = some (.int .i64 lo) := by rw [cell_of_row _ _ _ _ _ _ (hS.heap 0 rfl)]; rfl); go_wp2; exact ⟨rfl, Below.refl _ _⟩
  simp only [act_norm]
  refine wpAnyE_take 6 (v := .int .i64 d) rfl (by kernel_rfl) (by kernel_rfl) (by kernel_rfl) (fun _ _ _ h => h) hst (EffB.run rfl rfl (fun wd hS => ?_)) (.inl (by kernel_rfl)) ?_
  · (go_wp2; exact ⟨rfl, Below.refl _ _⟩)
  simp only [act_norm]
  refine wpAnyE_take 7 (v := .int .u64 d) rfl (by kernel_rfl) (by kernel_rfl) (by kernel_rfl) (fun _ _ _ h => h) hst (EffB.run rfl rfl (fun wd hS => ?_)) (.inl (by kernel_rfl)) ?_
  · (go_wp2; exact ⟨rfl, Below.refl _ _⟩)
  simp only [act_norm]
  refine wpAnyE_take 8 (v := .agg (cells2 x)) rfl (by kernel_rfl) (by kernel_rfl) (by kernel_rfl) (fun _ _ _ h => h) hst (EffB.run rfl rfl (fun wd hS => ?_)) (.inl (by kernel_rfl)) ?_
  · (go_wp2_with fail; (with_reducible refine (M1.out wd).mono ?_); rintro e w'' ⟨rfl, hb⟩; exact ⟨rfl, hb⟩)
  simp only [act_norm]
  refine wpAnyE_take 9 (v := .pointer (some ⟨w.heap.size, 3, none⟩)) rfl (by kernel_rfl) (by kernel_rfl) (by kernel_rfl) (fun _ _ _ h => h) hst (EffB.run rfl rfl (fun wd hS => ?_)) (.inr (EffB.run rfl rfl (fun wd hS => ?_))) ?_
  · (go_wp2; exact ⟨rfl, Below.refl _ _⟩)
  · (go_wp2; exact ⟨rfl, Below.refl _ _⟩)
  simp only [act_norm]
  refine wpAnyE_take 10 (v := .int .i64 p) rfl (by kernel_rfl) (by kernel_rfl) (by kernel_rfl) (fun _ _ _ h => h) hst (EffB.run rfl rfl (fun wd hS => ?_)) (.inl (by kernel_rfl)) ?_
  · (have c2 : wd.cell? ⟨w.heap.size, 3, none⟩ = some (.int .i64 p) := by rw [cell_of_row _ _ _ _ _ _ (hS.heap 0 rfl)]; rfl); go_wp2; exact ⟨rfl, Below.refl _ _⟩
  simp only [act_norm]
  refine wpAnyE_take 11 (v := .int .u64 p) rfl (by kernel_rfl) (by kernel_rfl) (by kernel_rfl) (fun _ _ _ h => h) hst (EffB.run rfl rfl (fun wd hS => ?_)) (.inl (by kernel_rfl)) ?_
  · (go_wp2; exact ⟨rfl, Below.refl _ _⟩)
  simp only [act_norm]
  refine wpAnyE_take 12 (v := .tuple #[.agg (cells2 q), .int .u64 r, .bool b]) rfl (by kernel_rfl) (by kernel_rfl) (by kernel_rfl) (fun _ _ _ h => h) hst (EffB.run rfl rfl (fun wd hS => ?_)) (.inl (by kernel_rfl)) ?_
  · (go_wp2_with fail; (with_reducible refine (D1.out wd).mono ?_); rintro e w'' ⟨rfl, hb⟩; exact ⟨rfl, hb⟩)
  simp only [act_norm]
  refine wpAnyE_take 13 rfl (by kernel_rfl) (by kernel_rfl) (by kernel_rfl) (fun _ _ _ h => h) hst (EffB.pure rfl (fun _ => rfl)) (.inr (EffB.pure rfl (fun _ => rfl))) ?_
  simp only [act_norm]
  refine wpAnyE_take 14 (v := .agg (cells2 q)) rfl (by kernel_rfl) (by kernel_rfl) (by kernel_rfl) (fun _ _ _ h => h) hst (EffB.run rfl rfl (fun wd hS => ?_)) (.inr (EffB.run rfl rfl (fun wd hS => ?_))) ?_
  · (go_wp2; exact ⟨rfl, Below.refl _ _⟩)
  · (go_wp2; exact ⟨rfl, Below.refl _ _⟩)
  simp only [act_norm]
  refine wpAnyE_take 15 (v := .int .u64 r) rfl (by kernel_rfl) (by kernel_rfl) (by kernel_rfl) (fun _ _ _ h => h) hst (EffB.run rfl rfl (fun wd hS => ?_)) (.inr (EffB.run rfl rfl (fun wd hS => ?_))) ?_
  · (go_wp2; exact ⟨rfl, Below.refl _ _⟩)
  · (go_wp2; exact ⟨rfl, Below.refl _ _⟩)
  simp only [act_norm]
  refine wpAnyE_take 16 (v := .bool b) rfl (by kernel_rfl) (by kernel_rfl) (by kernel_rfl) (fun _ _ _ h => h) hst (EffB.run rfl rfl (fun wd hS => ?_)) (.inr (EffB.run rfl rfl (fun wd hS => ?_))) ?_
  · (go_wp2; exact ⟨rfl, Below.refl _ _⟩)
  · (go_wp2; exact ⟨rfl, Below.refl _ _⟩)
  simp only [act_norm]
  refine wpAnyE_one 17 rfl (by kernel_rfl) rfl (fun wd hS => ?_)
  refine wp_alloc_as 108 rfl (cells2 0) (twoZero _) ?_
  have hstN := stab_mem (w := w) (bs := [(w.heap.size, .cells #[.int .i64 kd, .int .i64 lo, .int .i64 hi, .int .i64 p, .int .i64 ph] 44), (wd.heap.size, .cells (cells2 0) 108)])
  refine ⟨_, hS.alloc _, hstN, .inr (fun _ h => h.init), ?_⟩
  have hst2 := stab_mem (w := w) (bs := [(w.heap.size, .cells #[.int .i64 kd, .int .i64 lo, .int .i64 hi, .int .i64 p, .int .i64 ph] 44), (wd.heap.size, .cells (cells2 q) 108)])
  clear hS hst
  obtain ⟨X, hX⟩ : ∃ X, wd.heap.size = X := ⟨_, rfl⟩
  rw [hX] at hstN hst2 ⊢
  clear hX
  try simp only [act_norm]
  have hst := hstN
  clear hstN
  refine wpAnyE_one 18 rfl (by kernel_rfl) rfl (fun wd hS => ?_)
  refine wp_store_row 108 _ _ rfl X (cells2 q) rfl rfl 108 (cells2 0) (hS.heap 1 rfl) (cells2_info _) rfl (cells2_one _) ?_
  refine ⟨_, hS.setRow 1 rfl, hst2, .inl (by decide), ?_⟩
  try simp only [act_norm]
  clear hst hS
  have hst := hst2
  clear hst2
  refine wpAnyE_take 19 rfl (by kernel_rfl) (by kernel_rfl) (by kernel_rfl) (fun _ _ _ h => h) hst (EffB.pure rfl (fun _ => rfl)) (.inr (EffB.pure rfl (fun _ => rfl))) ?_
  simp only [act_norm]
  refine wpAnyE_take 20 rfl (by kernel_rfl) (by kernel_rfl) (by kernel_rfl) (fun _ _ _ h => h) hst (EffB.pure rfl (fun _ => rfl)) (.inr (EffB.pure rfl (fun _ => rfl))) ?_
  simp only [act_norm]
  refine wpAnyE_done (by kernel_rfl) (fun wd hS => ?_) _
  have HW := Lib.hid hS
  clear hS
  go_wp2_with fail
  refine wp_region_E mixed [] hst (HW.out.drewN 1) ?_
  refine wpAnyE_take 0 (v := .pointer (some ⟨w.heap.size, 1, none⟩)) rfl (by kernel_rfl) (by kernel_rfl) (by kernel_rfl) (fun _ _ _ h => h) hst (EffB.run rfl rfl (fun wd hS => ?_)) (.inr (EffB.run rfl rfl (fun wd hS => ?_))) ?_
  · (go_wp2; exact ⟨rfl, Below.refl _ _⟩)
  · (go_wp2; exact ⟨rfl, Below.refl _ _⟩)
  simp only [act_norm]
  refine wpAnyE_take 1 (v := .int .i64 lo) rfl (by kernel_rfl) (by kernel_rfl) (by kernel_rfl) (fun _ _ _ h => h) hst (EffB.run rfl rfl (fun wd hS => ?_)) (.inl (by kernel_rfl)) ?_
  · (have c2 : wd.cell? ⟨w.heap.size, 1, none⟩ = some (.int .i64 lo) := by rw [cell_of_row _ _ _ _ _ _ (hS.heap 0 rfl)]; rfl); go_wp2; exact ⟨rfl, Below.refl _ _⟩
  simp only [act_norm]
  refine wpAnyE_take 2 (v := .agg (cells2 q)) rfl (by kernel_rfl) (by kernel_rfl) (by kernel_rfl) (fun _ _ _ h => h) hst (EffB.run rfl rfl (fun wd hS => ?_)) (.inl (by kernel_rfl)) ?_
  · exact wp_load_row 108 _ rfl X rfl 108 (cells2 q) (0, 0) _ (hS.heap 1 rfl) Tryz.underlying108 rfl (cells2_info q) ⟨rfl, Below.refl _ _⟩
  simp only [act_norm]
  refine wpAnyE_take 3 (v := .int .i64 q) rfl (by kernel_rfl) (by kernel_rfl) (by kernel_rfl) (fun _ _ _ h => h) hst (EffB.run rfl rfl (fun wd hS => ?_)) (.inl (by kernel_rfl)) ?_
  · (go_wp2_with fail; (with_reducible refine (S1.out wd).mono ?_); rintro e w'' ⟨rfl, hb⟩; exact ⟨rfl, hb⟩)
  simp only [act_norm]
  refine wpAnyE_take 4 (v := .int .i64 (lo + q)) rfl (by kernel_rfl) (by kernel_rfl) (by kernel_rfl) (fun _ _ _ h => h) hst (EffB.run rfl rfl (fun wd hS => ?_)) (.inl (by kernel_rfl)) ?_
  · (go_wp2; exact ⟨rfl, Below.refl _ _⟩)
  simp only [act_norm]
  refine wpAnyE_take 5 rfl (by kernel_rfl) (by kernel_rfl) (by kernel_rfl) (fun _ _ _ h => h) hst (EffB.pure rfl (fun _ => rfl)) (.inr (EffB.pure rfl (fun _ => rfl))) ?_
  simp only [act_norm]
  refine wpAnyE_done (by kernel_rfl) (fun wd hS => ?_) _
  have HB := Lib.hid hS.below
  clear hS
  go_wp2
  go_ret
  exact ⟨rfl, HB.out⟩
end Go.Proofs.YtldhbgefpfmkmaaGreat
