/- Layer 2: WideScales, walked. -/
import Derived.Test.YthlcjigpccmbmaaLaws02b
namespace Go.Proofs.Ythlcjigpccmbmaa
open Go.ChangeShapes Go.WideShapes Go.ChangeAt Go.RowKit

section
variable {P : Program} {ops : Array Oper} {rest : List Oper} {o : Oper} {a : Act} {w : World} {Q : Exit → Act → World → Prop}
/-- The same behind a guard that holds. -/
theorem wpList_load_rowG (hw : Region.wanted o (yielded ops a.tmps) = true) (ty : TypeId) (x : Operand) (ho : o.op = .load ty x)
    (g : Nat) (hx : a.eval x = .pointer (some ⟨g, 0, none⟩)) (t : TypeId) (cs : Array Value) (fr : Nat × Nat) (d : TypeDesc) (n : Nat) (hg : w.heap[g]? = some (.cells cs t fr))
    (hu : P.underlying ty = some d) (hd : (match d with | .struct _ | .array _ _ => true | _ => false) = true) (hi : (P.info? ty).map (·.size) = some n) (hn : cs.size = n)
    (h : wpList P ops Q rest (a.put o.dst (.agg cs)) w) : wpList P ops Q (o :: rest) a w :=
  BigFrame.wpList_want hw fun _ hK => wp_load_row ty x ho g hx t cs fr d hg hu hd (by rw [hn]; exact hi) (hK _ _ h)

end

theorem Bits.ceil (n c : Nat) (hc : 0 < c) (V : Nat) (hV : V = n / c + (if n % c = 0 then 0 else 1)) : n ≤ V * c ∧ (V = 0 ∨ (V - 1) * c < n) := by
  have h := Nat.div_add_mod' n c
  have hm := Nat.mod_lt n hc
  by_cases h0 : n % c = 0
  · rw [if_pos h0] at hV
    subst hV
    refine ⟨by rw [Nat.add_zero]; omega, ?_⟩
    by_cases hz : n / c = 0
    · exact .inl (by rw [hz])
    · right
      rw [Nat.add_zero, Nat.sub_mul, Nat.one_mul]
      have : c ≤ n / c * c := Nat.le_mul_of_pos_left c (Nat.pos_of_ne_zero hz)
      omega
  · rw [if_neg h0] at hV
    subst hV
    refine ⟨by rw [Nat.add_mul, Nat.one_mul]; omega, .inr (by rw [Nat.add_sub_cancel]; omega)⟩

theorem Wide.up_is (n c : Nat) (hc : 0 < c) : ∃ q : Nat, Wide.up n c = q ∧ q ≤ 9223372036854775807 ∧ (q = 9223372036854775807 → (q - 1) * c < n) ∧ (q ≠ 9223372036854775807 → Bits.up n c q = true) := by
  obtain ⟨V, hV⟩ : ∃ V, V = n / c + (if n % c = 0 then 0 else 1) := ⟨_, rfl⟩
  obtain ⟨h1, h2⟩ := Bits.ceil n c hc V hV
  have he : Wide.up n c = Bits.small V := by unfold Wide.up; rw [if_neg (by omega), ← hV]
  by_cases hs : V < 9223372036854775808
  · refine ⟨V, by rw [he]; unfold Bits.small; rw [if_pos hs], by omega, fun h => ?_, fun _ => ?_⟩
    · rcases h2 with h2 | h2
      · omega
      · exact h2
    · unfold Bits.up
      exact decide_eq_true ⟨h1, h2⟩
  · refine ⟨9223372036854775807, by rw [he]; unfold Bits.small; rw [if_neg hs]; rfl, by omega, fun _ => ?_, fun h => absurd rfl h⟩
    have h3 : (9223372036854775807 - 1) * c ≤ (V - 1) * c := Nat.mul_le_mul_right _ (by omega)
    rcases h2 with h2 | h2 <;> omega

set_option maxHeartbeats 1000000 in
set_option maxRecDepth 100000 in
theorem wideScales_walk (a b c : Int) (ha : I64 a) (hb : I64 b) (hc : I64 c) (x : Nat) (hx : x < 340282366920938463463374607431768211456) (w : World) :
    Calls Try.prog 10 #[.int .i64 a, .int .i64 b, .int .i64 c, two x] w fun e w' => e = .returned (.bool true) ∧ Below w.heap.size w w' := by
  have hnx : ∀ w, Calls Try.prog 32 #[.agg (cells2 x)] w fun e w' => e = .returned (.agg (Bits.num x)) ∧ Below w.heap.size w w' := law_num x hx
  have hsm : ∀ w, Calls Try.prog 42 #[.agg (cells2 x)] w fun e w' => e = .returned (.int .i64 (Bits.small x)) ∧ Below w.heap.size w w' := wide_small' x
  have hrs := ref_small x hx
  obtain ⟨y, hy⟩ : ∃ y, y = Bits.small x := ⟨_, rfl⟩
  rw [← hy] at hsm hrs
  have hsc := wide_scale a b c ha hb hc
  rw [two_cells x]
  clear hy
  by_cases h : a < 0 ∨ b < 0 ∨ c < 1
  · rw [show Wide.scale a b c = 0 by unfold Wide.scale; rw [if_pos h]] at hsc
    have HSC := Lib.hid hsc
    have HH := Lib.hid h
    clear hsc h
    go_enter Try.func10, Try.ntmps10
    go_wp2_with fail
    (with_reducible refine (awake02 _).mono ?_)
    rintro e w1 ⟨rfl, hb1⟩
    have k0 := (below1 w (.cells (cells2 x) 36)).trans (hb1.mono (by simp))
    have k1 : w1.heap[w.heap.size]? = some (.cells (cells2 x) 36 (0, 0)) := by rw [hb1.block _ (by simp)]; exact (by simp only [heap_alloc_past, heap_alloc_at, World.size_alloc, Nat.add_assoc, Nat.reduceAdd, Nat.lt_add_right_iff_pos, Nat.add_lt_add_iff_left, Nat.reduceLT, Nat.zero_lt_succ, Nat.lt_add_one])
    clear hb1
    have hst : Stab (fun w' => Below w.heap.size w w' ∧ w'.heap[w.heap.size]? = some (.cells (cells2 x) 36 (0, 0))) :=
      stab_and (stab_below (Nat.le_refl _)) (stab_heap _ _)
    have K0 := Lib.hid k0
    have K1 := Lib.hid k1
    clear k0 k1
    go_wp2_with fail
    refine wp_region_E mixed [] hst ⟨below_drew K0.out, K1.out⟩ ?_
    refine wpAnyE_take 0 (v := .agg (cells2 x)) rfl (by kernel_rfl) (by kernel_rfl) (by kernel_rfl) (fun _ _ _ h => h) hst (EffB.run rfl rfl (fun wd hS => ?_)) (.inl (by kernel_rfl)) ?_
    · exact wp_load_row 36 _ rfl w.heap.size rfl 36 (cells2 x) (0, 0) _ hS.2 Try.underlying36 rfl (cells2_info x) ⟨rfl, Below.refl _ _⟩
    simp only [act_norm]
    refine wpAnyE_take 1 (v := .int .i64 y) rfl (by kernel_rfl) (by kernel_rfl) (by kernel_rfl) (fun _ _ _ h => h) hst (EffB.run rfl rfl (fun wd hS => ?_)) (.inl (by kernel_rfl)) ?_
    · (go_wp2_with fail; (with_reducible refine (hsm wd).mono ?_); rintro e w'' ⟨rfl, hb⟩; exact ⟨rfl, hb⟩)
    simp only [act_norm]
    refine wpAnyE_take 2 (v := .agg (cells2 x)) rfl (by kernel_rfl) (by kernel_rfl) (by kernel_rfl) (fun _ _ _ h => h) hst (EffB.run rfl rfl (fun wd hS => ?_)) (.inl (by kernel_rfl)) ?_
    · exact wp_load_row 36 _ rfl w.heap.size rfl 36 (cells2 x) (0, 0) _ hS.2 Try.underlying36 rfl (cells2_info x) ⟨rfl, Below.refl _ _⟩
    simp only [act_norm]
    refine wpAnyE_take 3 (v := .agg (Bits.num x)) rfl (by kernel_rfl) (by kernel_rfl) (by kernel_rfl) (fun _ _ _ h => h) hst (EffB.run rfl rfl (fun wd hS => ?_)) (.inl (by kernel_rfl)) ?_
    · (go_wp2_with fail; (with_reducible refine (hnx wd).mono ?_); rintro e w'' ⟨rfl, hb⟩; exact ⟨rfl, hb⟩)
    simp only [act_norm]
    refine wpAnyE_take 4 (v := .int .i64 y) rfl (by kernel_rfl) (by kernel_rfl) (by kernel_rfl) (fun _ _ _ h => h) hst (EffB.run rfl rfl (fun wd hS => ?_)) (.inl (by kernel_rfl)) ?_
    · (go_wp2_with fail; (with_reducible refine (hrs wd).mono ?_); rintro e w'' ⟨rfl, hb⟩; exact ⟨rfl, hb⟩)
    simp only [act_norm]
    refine wpAnyE_take 5 (v := .bool false) rfl (by kernel_rfl) (by kernel_rfl) (by kernel_rfl) (fun _ _ _ h => h) hst (EffB.run rfl rfl (fun wd hS => ?_)) (.inr (EffB.run rfl rfl (fun wd hS => ?_))) ?_
    · (go_wp2; exact ⟨rfl, Below.refl _ _⟩)
    · (go_wp2; exact ⟨rfl, Below.refl _ _⟩)
    simp only [act_norm]
    refine wpAnyE_done (by kernel_rfl) (fun wd hS => ?_) _
    have HW := Lib.hid hS.1
    clear hS
    go_wp2_with fail
    (with_reducible refine (HSC.out _).mono ?_)
    rintro e w2 ⟨rfl, hb2⟩
    have HW2 := Lib.hid (HW.out.trans (hb2.mono HW.out.size))
    clear hb2
    by_cases h1 : a < 0
    · go_wp2
      go_ret
      exact ⟨rfl, HW2.out⟩
    · by_cases h2 : b < 0
      · go_wp2
        go_ret
        exact ⟨rfl, HW2.out⟩
      · have h3 : c < 1 := by rcases HH.out with h | h | h <;> omega
        go_wp2
        go_ret
        exact ⟨rfl, HW2.out⟩
  · obtain ⟨A, rfl⟩ : ∃ A : Nat, a = A := ⟨a.toNat, by omega⟩
    obtain ⟨B, rfl⟩ : ∃ B : Nat, b = B := ⟨b.toNat, by omega⟩
    obtain ⟨C, rfl⟩ : ∃ C : Nat, c = C := ⟨c.toNat, by omega⟩
    have lA : A ≤ 9223372036854775807 := by have := ha.2; omega
    have lB : B ≤ 9223372036854775807 := by have := hb.2; omega
    have lC : C ≤ 9223372036854775807 := by have := hc.2; omega
    have pC : 1 ≤ C := by omega
    have es : Wide.scale A B C = Wide.up (A * B) C := by unfold Wide.scale; rw [if_neg h]; simp
    obtain ⟨q, eq, lq, q1, q2⟩ := Wide.up_is (A * B) C (by omega)
    rw [es, eq] at hsc
    obtain ⟨z, hz⟩ : ∃ z : Int, z = q := ⟨_, rfl⟩
    rw [← hz] at hsc
    have hm1 := ref_numMul A B (by omega) (by omega)
    have hm2 : ∀ w, Calls Try.prog 35 #[.int .u64 9223372036854775806, .int .u64 C] w fun e w' => e = .returned (.agg (Bits.num (9223372036854775806 * C))) ∧ Below w.heap.size w w' := ref_numMul 9223372036854775806 C (by omega) (by omega)
    have hn : A * B < 2 ^ 128 := Bits.mul_lt (by omega) (by omega)
    have hcmp := ref_numCmp (9223372036854775806 * C) (A * B) (Bits.mul_lt (by omega) (by omega)) hn
    have hup := ref_up (A * B) C q hn (by omega) (by omega)
    obtain ⟨n, en⟩ : ∃ n, n = A * B := ⟨_, rfl⟩
    rw [← en] at hm1 hcmp hup q1 q2
    rw [← hz] at hup
    have z0 : 0 ≤ z := by omega
    have z1 : z ≤ 9223372036854775807 := by omega
    have HZ := Lib.hid hz
    clear en hn eq es h ha hb hc
    have HSC := Lib.hid hsc
    have HM1 := Lib.hid hm1
    have HM2 := Lib.hid hm2
    have HCMP := Lib.hid hcmp
    have HUP := Lib.hid hup
    have Q1 := Lib.hid q1
    have Q2 := Lib.hid q2
    clear hsc hm1 hm2 hcmp hup q1 q2 hz lq
    go_enter Try.func10, Try.ntmps10
    go_wp2_with fail
    (with_reducible refine (awake02 _).mono ?_)
    rintro e w1 ⟨rfl, hb1⟩
    have k0 := (below1 w (.cells (cells2 x) 36)).trans (hb1.mono (by simp))
    have k1 : w1.heap[w.heap.size]? = some (.cells (cells2 x) 36 (0, 0)) := by rw [hb1.block _ (by simp)]; exact (by simp only [heap_alloc_past, heap_alloc_at, World.size_alloc, Nat.add_assoc, Nat.reduceAdd, Nat.lt_add_right_iff_pos, Nat.add_lt_add_iff_left, Nat.reduceLT, Nat.zero_lt_succ, Nat.lt_add_one])
    clear hb1
    have hst : Stab (fun w' => Below w.heap.size w w' ∧ w'.heap[w.heap.size]? = some (.cells (cells2 x) 36 (0, 0))) :=
      stab_and (stab_below (Nat.le_refl _)) (stab_heap _ _)
    have K0 := Lib.hid k0
    have K1 := Lib.hid k1
    clear k0 k1
    go_wp2_with fail
    refine wp_region_E mixed [] hst ⟨below_drew K0.out, K1.out⟩ ?_
    refine wpAnyE_take 0 (v := .agg (cells2 x)) rfl (by kernel_rfl) (by kernel_rfl) (by kernel_rfl) (fun _ _ _ h => h) hst (EffB.run rfl rfl (fun wd hS => ?_)) (.inl (by kernel_rfl)) ?_
    · exact wp_load_row 36 _ rfl w.heap.size rfl 36 (cells2 x) (0, 0) _ hS.2 Try.underlying36 rfl (cells2_info x) ⟨rfl, Below.refl _ _⟩
    simp only [act_norm]
    refine wpAnyE_take 1 (v := .int .i64 y) rfl (by kernel_rfl) (by kernel_rfl) (by kernel_rfl) (fun _ _ _ h => h) hst (EffB.run rfl rfl (fun wd hS => ?_)) (.inl (by kernel_rfl)) ?_
    · (go_wp2_with fail; (with_reducible refine (hsm wd).mono ?_); rintro e w'' ⟨rfl, hb⟩; exact ⟨rfl, hb⟩)
    simp only [act_norm]
    refine wpAnyE_take 2 (v := .agg (cells2 x)) rfl (by kernel_rfl) (by kernel_rfl) (by kernel_rfl) (fun _ _ _ h => h) hst (EffB.run rfl rfl (fun wd hS => ?_)) (.inl (by kernel_rfl)) ?_
    · exact wp_load_row 36 _ rfl w.heap.size rfl 36 (cells2 x) (0, 0) _ hS.2 Try.underlying36 rfl (cells2_info x) ⟨rfl, Below.refl _ _⟩
    simp only [act_norm]
    refine wpAnyE_take 3 (v := .agg (Bits.num x)) rfl (by kernel_rfl) (by kernel_rfl) (by kernel_rfl) (fun _ _ _ h => h) hst (EffB.run rfl rfl (fun wd hS => ?_)) (.inl (by kernel_rfl)) ?_
    · (go_wp2_with fail; (with_reducible refine (hnx wd).mono ?_); rintro e w'' ⟨rfl, hb⟩; exact ⟨rfl, hb⟩)
    simp only [act_norm]
    refine wpAnyE_take 4 (v := .int .i64 y) rfl (by kernel_rfl) (by kernel_rfl) (by kernel_rfl) (fun _ _ _ h => h) hst (EffB.run rfl rfl (fun wd hS => ?_)) (.inl (by kernel_rfl)) ?_
    · (go_wp2_with fail; (with_reducible refine (hrs wd).mono ?_); rintro e w'' ⟨rfl, hb⟩; exact ⟨rfl, hb⟩)
    simp only [act_norm]
    refine wpAnyE_take 5 (v := .bool false) rfl (by kernel_rfl) (by kernel_rfl) (by kernel_rfl) (fun _ _ _ h => h) hst (EffB.run rfl rfl (fun wd hS => ?_)) (.inr (EffB.run rfl rfl (fun wd hS => ?_))) ?_
    · (go_wp2; exact ⟨rfl, Below.refl _ _⟩)
    · (go_wp2; exact ⟨rfl, Below.refl _ _⟩)
    simp only [act_norm]
    refine wpAnyE_done (by kernel_rfl) (fun wd hS => ?_) _
    have HW := Lib.hid hS.1
    clear hS hst K0 K1 hnx hsm hrs
    go_wp2_with fail
    (with_reducible refine (HSC.out _).mono ?_)
    rintro e w2 ⟨rfl, hb2⟩
    have HW2 := Lib.hid (HW.out.trans (hb2.mono HW.out.size))
    clear hb2
    go_wp2_with fail
    (with_reducible refine (HM1.out _).mono ?_)
    rintro e w3 ⟨rfl, hb3⟩
    have HW3 := Lib.hid (HW2.out.trans (hb3.mono HW2.out.size))
    clear hb3
    by_cases hqi : z = 9223372036854775807
    · have h1 : 9223372036854775806 * C < n := by
        have hq : q = 9223372036854775807 := by have := HZ.out; omega
        have := Q1.out hq
        rw [hq] at this
        exact this
      clear Q1 Q2 HUP
      have hc1 : Bits.cmp (9223372036854775806 * C) n = -1 := by unfold Bits.cmp; rw [if_pos h1]
      rw [hc1] at HCMP
      clear h1 hc1
      obtain ⟨k, ek⟩ : ∃ k, k = 9223372036854775806 * C := ⟨_, rfl⟩
      rw [← ek] at HM2 HCMP
      clear ek
      go_wp2_with (first | ((with_reducible refine wpList_alloc_as rfl _ rfl _ (numZero _) ?_); (try simp only [World.size_alloc])) | ((with_reducible refine wpList_store_rowAs rfl 41 _ _ rfl (w3.heap.size) (Bits.num n) ?_ ?_ 41 (Bits.num 0) 128 ?_ numInfo (Bits.num_size _) (Bits.num_size _) (num_oneCell _) ?_); exact rfl; exact rfl; exact (by simp only [heap_alloc_past, heap_alloc_at, World.size_alloc, Nat.add_assoc, Nat.reduceAdd, Nat.lt_add_right_iff_pos, Nat.add_lt_add_iff_left, Nat.reduceLT, Nat.zero_lt_succ, Nat.lt_add_one]); simp only [setRow_alloc_past, setRow_alloc_at, World.size_alloc, Nat.add_assoc, Nat.reduceAdd, Nat.lt_add_right_iff_pos, Nat.add_lt_add_iff_left, Nat.reduceLT, Nat.zero_lt_succ, Nat.lt_add_one]))
      clear hqi z0 z1
      have hst : Stab (fun w' => Below w.heap.size w w' ∧ w'.heap[w3.heap.size]? = some (.cells (Bits.num n) 41 (0, 0))) :=
        stab_and (stab_below (Nat.le_refl _)) (stab_heap _ _)
      refine wp_region_E mixed [9] hst ⟨below_drew (HW3.out.alloc HW3.out.size _), heap_alloc_at _ _ _ rfl⟩ ?_
      refine wpAnyE_take 0 rfl (by kernel_rfl) (by kernel_rfl) (by kernel_rfl) (fun _ _ _ h => h) hst (EffB.pure rfl (fun _ => rfl)) (.inr (EffB.pure rfl (fun _ => rfl))) ?_
      simp only [act_norm]
      refine wpAnyE_take 1 (v := .int .i64 9223372036854775806) rfl (by kernel_rfl) (by kernel_rfl) (by kernel_rfl) (fun _ _ _ h => h) hst (EffB.run rfl rfl (fun wd hS => ?_)) (.inr (EffB.run rfl rfl (fun wd hS => ?_))) ?_
      · (go_wp2; exact ⟨rfl, Below.refl _ _⟩)
      · (go_wp2; exact ⟨rfl, Below.refl _ _⟩)
      simp only [act_norm]
      refine wpAnyE_take 2 (v := .int .u64 9223372036854775806) rfl (by kernel_rfl) (by kernel_rfl) (by kernel_rfl) (fun _ _ _ h => h) hst (EffB.run rfl rfl (fun wd hS => ?_)) (.inr (EffB.run rfl rfl (fun wd hS => ?_))) ?_
      · (go_wp2; exact ⟨rfl, Below.refl _ _⟩)
      · (go_wp2; exact ⟨rfl, Below.refl _ _⟩)
      simp only [act_norm]
      refine wpAnyE_take 3 rfl (by kernel_rfl) (by kernel_rfl) (by kernel_rfl) (fun _ _ _ h => h) hst (EffB.pure rfl (fun _ => rfl)) (.inr (EffB.pure rfl (fun _ => rfl))) ?_
      simp only [act_norm]
      refine wpAnyE_take 4 (v := .int .u64 C) rfl (by kernel_rfl) (by kernel_rfl) (by kernel_rfl) (fun _ _ _ h => h) hst (EffB.run rfl rfl (fun wd hS => ?_)) (.inr (EffB.run rfl rfl (fun wd hS => ?_))) ?_
      · (go_wp2; exact ⟨rfl, Below.refl _ _⟩)
      · (go_wp2; exact ⟨rfl, Below.refl _ _⟩)
      simp only [act_norm]
      refine wpAnyE_take 5 (v := .agg (Bits.num k)) rfl (by kernel_rfl) (by kernel_rfl) (by kernel_rfl) (fun _ _ _ h => h) hst (EffB.run rfl rfl (fun wd hS => ?_)) (.inl (by kernel_rfl)) ?_
      · (go_wp2_with fail; (with_reducible refine (HM2.out wd).mono ?_); rintro e w'' ⟨rfl, hb⟩; exact ⟨rfl, hb⟩)
      simp only [act_norm]
      refine wpAnyE_take 6 (v := .agg (Bits.num n)) rfl (by kernel_rfl) (by kernel_rfl) (by kernel_rfl) (fun _ _ _ h => h) hst (EffB.run rfl rfl (fun wd hS => ?_)) (.inl (by kernel_rfl)) ?_
      · exact wp_load_row 41 _ rfl w3.heap.size rfl 41 (Bits.num n) (0, 0) _ hS.2 Try.underlying41 rfl (by rw [Bits.num_size]; exact numInfo) ⟨rfl, Below.refl _ _⟩
      simp only [act_norm]
      refine wpAnyE_take 7 (v := .int .i64 (-1)) rfl (by kernel_rfl) (by kernel_rfl) (by kernel_rfl) (fun _ _ _ h => h) hst (EffB.run rfl rfl (fun wd hS => ?_)) (.inl (by kernel_rfl)) ?_
      · (go_wp2_with fail; (with_reducible refine (HCMP.out wd).mono ?_); rintro e w'' ⟨rfl, hb⟩; exact ⟨rfl, hb⟩)
      simp only [act_norm]
      refine wpAnyE_take 8 (v := .bool true) rfl (by kernel_rfl) (by kernel_rfl) (by kernel_rfl) (fun _ _ _ h => h) hst (EffB.run rfl rfl (fun wd hS => ?_)) (.inr (EffB.run rfl rfl (fun wd hS => ?_))) ?_
      · (go_wp2; exact ⟨rfl, Below.refl _ _⟩)
      · (go_wp2; exact ⟨rfl, Below.refl _ _⟩)
      simp only [act_norm]
      refine wpAnyE_take 9 (v := .bool true) rfl (by kernel_rfl) (by kernel_rfl) (by kernel_rfl) (fun _ _ _ h => h) hst (EffB.run rfl rfl (fun wd hS => ?_)) (.inr (EffB.run rfl rfl (fun wd hS => ?_))) ?_
      · (go_wp2; exact ⟨rfl, Below.refl _ _⟩)
      · (go_wp2; exact ⟨rfl, Below.refl _ _⟩)
      simp only [act_norm]
      refine wpAnyE_done (by kernel_rfl) (fun wd hS => ?_) _
      go_wp2
      go_ret
      exact ⟨rfl, hS.1⟩
    · rw [Q2.out (by have := HZ.out; omega)] at HUP
      have HN : Hid ((w3.alloc (.cells (Bits.num n) 41)).heap[w3.heap.size]? = some (.cells (Bits.num n) 41 (0, 0))) := heap_alloc_at _ _ _ rfl
      clear HM2 HCMP Q1 Q2
      go_wp2_with (first | ((with_reducible refine wpList_alloc_as rfl _ rfl _ (numZero _) ?_); (try simp only [World.size_alloc])) | ((with_reducible refine wpList_store_rowAs rfl 41 _ _ rfl (w3.heap.size) (Bits.num n) ?_ ?_ 41 (Bits.num 0) 128 ?_ numInfo (Bits.num_size _) (Bits.num_size _) (num_oneCell _) ?_); exact rfl; exact rfl; exact (by simp only [heap_alloc_past, heap_alloc_at, World.size_alloc, Nat.add_assoc, Nat.reduceAdd, Nat.lt_add_right_iff_pos, Nat.add_lt_add_iff_left, Nat.reduceLT, Nat.zero_lt_succ, Nat.lt_add_one]); simp only [setRow_alloc_past, setRow_alloc_at, World.size_alloc, Nat.add_assoc, Nat.reduceAdd, Nat.lt_add_right_iff_pos, Nat.add_lt_add_iff_left, Nat.reduceLT, Nat.zero_lt_succ, Nat.lt_add_one]) | ((with_reducible refine wpList_load_rowG ?_ 41 _ rfl (w3.heap.size) ?_ 41 (Bits.num n) (0, 0) _ 128 ?_ Try.underlying41 rfl numInfo (Bits.num_size _) ?_); kernel_rfl; exact rfl; exact HN.out))
      (with_reducible refine (HUP.out _).mono ?_)
      rintro e w4 ⟨rfl, hb4⟩
      have HW4 := Lib.hid ((HW3.out.alloc HW3.out.size _).trans (hb4.mono (HW3.out.alloc HW3.out.size _).size))
      clear hb4
      go_wp2
      go_ret
      exact ⟨rfl, HW4.out⟩
end Go.Proofs.Ythlcjigpccmbmaa
