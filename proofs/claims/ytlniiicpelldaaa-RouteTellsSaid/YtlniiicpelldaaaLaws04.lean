/- Layer 4: the laws, walked. -/
import Derived.Test.YtlniiicpelldaaaFnv
import Derived.Test.YtlniiicpelldaaaEach
import Derived.Test.YtlniiicpelldaaaOpen
import Derived.Test.YtlniiicpelldaaaMem
namespace Go.Proofs.Ytlniiicpelldaaa
open Go.ChangeShapes Go.WideShapes Go.ChangeAt Go.RowKit

set_option maxRecDepth 100000 in
theorem awake04 (w : World) : Calls Try.prog 27 #[] w fun e w' => e = .returned (.bool true) ∧ w = w' := by
  have h1 := fnv_sum32 ⟨#[]⟩ (by decide)
  rw [show Fnv.sum32 (Str.bytes ⟨#[]⟩) = 2166136261 by rfl] at h1
  have h1' : ∀ w, Calls Try.prog 28 #[.string ⟨#[]⟩] w fun e w' => e = .returned (.int .u32 2166136261) ∧ w = w' := h1
  have h2 := fnv_sum64 ⟨#[97]⟩ (by decide)
  rw [show Fnv.sum (Str.bytes ⟨#[97]⟩) = 12638187200555641996 by decide] at h2
  have h2' : ∀ w, Calls Try.prog 30 #[.string ⟨#[97]⟩] w fun e w' => e = .returned (.int .u64 12638187200555641996) ∧ w = w' := h2
  have h3 := fnv_fold 257 8 (by omega) (by unfold I64; omega)
  rw [show Fnv.folded 257 8 = 0 by decide] at h3
  have h3' : ∀ w, Calls Try.prog 35 #[.int .u64 257, .int .i64 8] w fun e w' => e = .returned (.int .u64 0) ∧ w = w' := h3
  have H1 := Lib.hid h1'
  have H2 := Lib.hid h2'
  have H3 := Lib.hid h3'
  clear h1 h2 h3 h1' h2' h3'
  go_enter Try.func27, Try.ntmps27
  go_wp2_with (first | (with_reducible refine (H1.out _).mono ?_; rintro e w1 ⟨rfl, rfl⟩) | (with_reducible refine (H2.out _).mono ?_; rintro e w1 ⟨rfl, rfl⟩) | (with_reducible refine (H3.out _).mono ?_; rintro e w1 ⟨rfl, rfl⟩))
  go_ret
  exact ⟨rfl, rfl⟩

theorem fnvFolds_walk (h : Nat) (b : Int) (hh : h < 18446744073709551616) (hb : I64 b) (w : World) :
    Calls Try.prog 9 #[.int .u64 h, .int .i64 b] w fun e w' => e = .returned (.bool true) ∧ Below w.heap.size w w' := by
  have H1 := Lib.hid (fnv_fold h b hh hb)
  have H2 := Lib.hid (ref_fold h b hh hb)
  by_cases hr : 1 ≤ b ∧ b ≤ 32
  · obtain ⟨n, rfl⟩ : ∃ n : Nat, b = n := ⟨b.toNat, by omega⟩
    have hl : Fnv.folded h n < 2 ^ n := by
      unfold Fnv.folded
      rw [if_pos hr, Int.toNat_natCast]
      exact Nat.mod_lt _ (Nat.two_pow_pos n)
    have hq : (2 : Nat) ^ n ≤ 2 ^ 32 := Nat.pow_le_pow_right (by omega) (by omega)
    obtain ⟨x, ex⟩ : ∃ x, x = Fnv.folded h n := ⟨_, rfl⟩
    rw [← ex] at H1 H2 hl
    obtain ⟨p, ep⟩ : ∃ x, x = 2 ^ n := ⟨_, rfl⟩
    have epi : (2 : Int) ^ n = p := by rw [ep]; simp
    rw [← ep] at hl hq
    clear ep ex
    go_enter Try.func9, Try.ntmps9
    go_wp2_with (first | (with_reducible refine (awake04 _).mono ?_; rintro e w1 ⟨rfl, rfl⟩) | (with_reducible refine (H1.out _).mono ?_; rintro e w1 ⟨rfl, rfl⟩) | (with_reducible refine (H2.out _).mono ?_; rintro e w1 ⟨rfl, rfl⟩))
    go_ret
    exact ⟨rfl, Below.refl _ _⟩
  · obtain ⟨x, ex⟩ : ∃ x, x = Fnv.folded h b := ⟨_, rfl⟩
    rw [← ex] at H1 H2
    clear ex
    by_cases hb1 : b < 1
    · go_enter Try.func9, Try.ntmps9
      go_wp2_with (first | (with_reducible refine (awake04 _).mono ?_; rintro e w1 ⟨rfl, rfl⟩) | (with_reducible refine (H1.out _).mono ?_; rintro e w1 ⟨rfl, rfl⟩) | (with_reducible refine (H2.out _).mono ?_; rintro e w1 ⟨rfl, rfl⟩))
      go_ret
      exact ⟨rfl, Below.refl _ _⟩
    · have hb2 : 32 < b := by omega
      go_enter Try.func9, Try.ntmps9
      go_wp2_with (first | (with_reducible refine (awake04 _).mono ?_; rintro e w1 ⟨rfl, rfl⟩) | (with_reducible refine (H1.out _).mono ?_; rintro e w1 ⟨rfl, rfl⟩) | (with_reducible refine (H2.out _).mono ?_; rintro e w1 ⟨rfl, rfl⟩))
      go_ret
      exact ⟨rfl, Below.refl _ _⟩

theorem keyInfo : (Try.prog.info? 25).map (·.size) = some 2 := by kernel_rfl

set_option maxHeartbeats 1000000 in
set_option maxRecDepth 100000 in
theorem fnvSums_walk (s : ByteArray) (hi lo : Nat) (h1 : hi < 18446744073709551616) (h2 : lo < 18446744073709551616) (w : World) :
    Calls Try.prog 7 #[.string s, .agg #[.int .u64 hi, .int .u64 lo]] w fun e w' => e = .returned (.bool true) ∧ Below w.heap.size w w' := by
  by_cases hs : 200 < s.size
  · go_enter Try.func7, Try.ntmps7
    go_wp2_with (with_reducible refine (awake04 _).mono ?_; rintro e w1 ⟨rfl, rfl⟩)
    go_ret
    exact ⟨rfl, (Below.refl _ _).alloc (Nat.le_refl _) _⟩
  · have e1 := fnv_sum32 s (by omega)
    have e2 := ref_sum32 s (by omega)
    have e3 := fnv_sum64 s (by omega)
    have e4 := ref_sum64 s (by omega)
    have e5 := fnv_key hi lo h1 h2
    have e6 := ref_key hi lo h1 h2
    obtain ⟨a, ha⟩ : ∃ a, a = Fnv.sum32 (Str.bytes s) := ⟨_, rfl⟩
    obtain ⟨b, hb⟩ : ∃ a, a = Fnv.sum (Str.bytes s) := ⟨_, rfl⟩
    obtain ⟨c, hc⟩ : ∃ a, a = Fnv.key hi lo := ⟨_, rfl⟩
    rw [← ha] at e1 e2
    rw [← hb] at e3 e4
    rw [← hc] at e5 e6
    clear ha hb hc
    go_enter Try.func7, Try.ntmps7
    go_wp2_with (with_reducible refine (awake04 _).mono ?_; rintro e w1 ⟨rfl, rfl⟩)
    have hst : Stab (fun w' => Below w.heap.size w w' ∧ w'.heap[w.heap.size]? = some (.cells #[.int .u64 hi, .int .u64 lo] 25 (0, 0))) :=
      stab_and (stab_below (Nat.le_refl _)) (stab_heap _ _)
    refine wp_region_E mixed [19] hst ⟨below_drew (below1 _ _), (by simp only [heap_alloc_past, heap_alloc_at, World.size_alloc, Nat.add_assoc, Nat.reduceAdd, Nat.lt_add_right_iff_pos, Nat.add_lt_add_iff_left, Nat.reduceLT, Nat.zero_lt_succ, Nat.lt_add_one])⟩ ?_
    refine wpAnyE_take 0 rfl (by kernel_rfl) (by kernel_rfl) (by kernel_rfl) (fun _ _ _ h => h) hst (EffB.pure rfl (fun _ => rfl)) (.inr (EffB.pure rfl (fun _ => rfl))) ?_
    simp only [act_norm]
    refine wpAnyE_take 1 (v := .int .u32 a) rfl (by kernel_rfl) (by kernel_rfl) (by kernel_rfl) (fun _ _ _ h => h) hst (EffB.run rfl rfl (fun wd hS => ?_)) (.inl (by kernel_rfl)) ?_
    · (go_wp2_with fail; (with_reducible refine (e1 wd).mono ?_); rintro e w'' ⟨rfl, rfl⟩; exact ⟨rfl, Below.refl _ _⟩)
    simp only [act_norm]
    refine wpAnyE_take 2 rfl (by kernel_rfl) (by kernel_rfl) (by kernel_rfl) (fun _ _ _ h => h) hst (EffB.pure rfl (fun _ => rfl)) (.inr (EffB.pure rfl (fun _ => rfl))) ?_
    simp only [act_norm]
    refine wpAnyE_take 3 (v := .int .u32 a) rfl (by kernel_rfl) (by kernel_rfl) (by kernel_rfl) (fun _ _ _ h => h) hst (EffB.run rfl rfl (fun wd hS => ?_)) (.inl (by kernel_rfl)) ?_
    · (go_wp2_with fail; (with_reducible refine (e2 wd).mono ?_); rintro e w'' ⟨rfl, rfl⟩; exact ⟨rfl, Below.refl _ _⟩)
    simp only [act_norm]
    refine wpAnyE_take 4 (v := .bool true) rfl (by kernel_rfl) (by kernel_rfl) (by kernel_rfl) (fun _ _ _ h => h) hst (EffB.run rfl rfl (fun wd hS => ?_)) (.inr (EffB.run rfl rfl (fun wd hS => ?_))) ?_
    · (go_wp2; exact ⟨rfl, Below.refl _ _⟩)
    · (go_wp2; exact ⟨rfl, Below.refl _ _⟩)
    simp only [act_norm]
    refine wpAnyE_take 5 rfl (by kernel_rfl) (by kernel_rfl) (by kernel_rfl) (fun _ _ _ h => h) hst (EffB.pure rfl (fun _ => rfl)) (.inr (EffB.pure rfl (fun _ => rfl))) ?_
    simp only [act_norm]
    refine wpAnyE_take 6 rfl (by kernel_rfl) (by kernel_rfl) (by kernel_rfl) (fun _ _ _ h => h) hst (EffB.pure rfl (fun _ => rfl)) (.inr (EffB.pure rfl (fun _ => rfl))) ?_
    simp only [act_norm]
    refine wpAnyE_take 7 (v := .int .u64 b) rfl (by kernel_rfl) (by kernel_rfl) (by kernel_rfl) (fun _ _ _ h => h) hst (EffB.run rfl rfl (fun wd hS => ?_)) (.inl (by kernel_rfl)) ?_
    · (go_wp2_with fail; (with_reducible refine (e3 wd).mono ?_); rintro e w'' ⟨rfl, rfl⟩; exact ⟨rfl, Below.refl _ _⟩)
    simp only [act_norm]
    refine wpAnyE_take 8 rfl (by kernel_rfl) (by kernel_rfl) (by kernel_rfl) (fun _ _ _ h => h) hst (EffB.pure rfl (fun _ => rfl)) (.inr (EffB.pure rfl (fun _ => rfl))) ?_
    simp only [act_norm]
    refine wpAnyE_take 9 (v := .int .u64 b) rfl (by kernel_rfl) (by kernel_rfl) (by kernel_rfl) (fun _ _ _ h => h) hst (EffB.run rfl rfl (fun wd hS => ?_)) (.inl (by kernel_rfl)) ?_
    · (go_wp2_with fail; (with_reducible refine (e4 wd).mono ?_); rintro e w'' ⟨rfl, rfl⟩; exact ⟨rfl, Below.refl _ _⟩)
    simp only [act_norm]
    refine wpAnyE_take 10 (v := .bool true) rfl (by kernel_rfl) (by kernel_rfl) (by kernel_rfl) (fun _ _ _ h => h) hst (EffB.run rfl rfl (fun wd hS => ?_)) (.inr (EffB.run rfl rfl (fun wd hS => ?_))) ?_
    · (go_wp2; exact ⟨rfl, Below.refl _ _⟩)
    · (go_wp2; exact ⟨rfl, Below.refl _ _⟩)
    simp only [act_norm]
    refine wpAnyE_take 11 (v := .bool true) rfl (by kernel_rfl) (by kernel_rfl) (by kernel_rfl) (fun _ _ _ h => h) hst (EffB.run rfl rfl (fun wd hS => ?_)) (.inr (EffB.run rfl rfl (fun wd hS => ?_))) ?_
    · (go_wp2; exact ⟨rfl, Below.refl _ _⟩)
    · (go_wp2; exact ⟨rfl, Below.refl _ _⟩)
    simp only [act_norm]
    refine wpAnyE_take 12 rfl (by kernel_rfl) (by kernel_rfl) (by kernel_rfl) (fun _ _ _ h => h) hst (EffB.pure rfl (fun _ => rfl)) (.inr (EffB.pure rfl (fun _ => rfl))) ?_
    simp only [act_norm]
    refine wpAnyE_take 13 (v := .agg #[.int .u64 hi, .int .u64 lo]) rfl (by kernel_rfl) (by kernel_rfl) (by kernel_rfl) (fun _ _ _ h => h) hst (EffB.run rfl rfl (fun wd hS => ?_)) (.inl (by kernel_rfl)) ?_
    · exact wp_load_row 25 _ rfl w.heap.size rfl 25 #[.int .u64 hi, .int .u64 lo] (0, 0) _ hS.2 Try.underlying25 rfl keyInfo ⟨rfl, Below.refl _ _⟩
    simp only [act_norm]
    refine wpAnyE_take 14 (v := .int .u64 c) rfl (by kernel_rfl) (by kernel_rfl) (by kernel_rfl) (fun _ _ _ h => h) hst (EffB.run rfl rfl (fun wd hS => ?_)) (.inl (by kernel_rfl)) ?_
    · (go_wp2_with fail; (with_reducible refine (e5 wd).mono ?_); rintro e w'' ⟨rfl, hb⟩; exact ⟨rfl, hb⟩)
    simp only [act_norm]
    refine wpAnyE_take 15 (v := .agg #[.int .u64 hi, .int .u64 lo]) rfl (by kernel_rfl) (by kernel_rfl) (by kernel_rfl) (fun _ _ _ h => h) hst (EffB.run rfl rfl (fun wd hS => ?_)) (.inl (by kernel_rfl)) ?_
    · exact wp_load_row 25 _ rfl w.heap.size rfl 25 #[.int .u64 hi, .int .u64 lo] (0, 0) _ hS.2 Try.underlying25 rfl keyInfo ⟨rfl, Below.refl _ _⟩
    simp only [act_norm]
    refine wpAnyE_take 16 (v := .int .u64 c) rfl (by kernel_rfl) (by kernel_rfl) (by kernel_rfl) (fun _ _ _ h => h) hst (EffB.run rfl rfl (fun wd hS => ?_)) (.inl (by kernel_rfl)) ?_
    · (go_wp2_with fail; (with_reducible refine (e6 wd).mono ?_); rintro e w'' ⟨rfl, hb⟩; exact ⟨rfl, hb⟩)
    simp only [act_norm]
    refine wpAnyE_take 17 (v := .bool true) rfl (by kernel_rfl) (by kernel_rfl) (by kernel_rfl) (fun _ _ _ h => h) hst (EffB.run rfl rfl (fun wd hS => ?_)) (.inr (EffB.run rfl rfl (fun wd hS => ?_))) ?_
    · (go_wp2; exact ⟨rfl, Below.refl _ _⟩)
    · (go_wp2; exact ⟨rfl, Below.refl _ _⟩)
    simp only [act_norm]
    refine wpAnyE_take 18 (v := .bool true) rfl (by kernel_rfl) (by kernel_rfl) (by kernel_rfl) (fun _ _ _ h => h) hst (EffB.run rfl rfl (fun wd hS => ?_)) (.inr (EffB.run rfl rfl (fun wd hS => ?_))) ?_
    · (go_wp2; exact ⟨rfl, Below.refl _ _⟩)
    · (go_wp2; exact ⟨rfl, Below.refl _ _⟩)
    simp only [act_norm]
    refine wpAnyE_take 19 (v := .bool true) rfl (by kernel_rfl) (by kernel_rfl) (by kernel_rfl) (fun _ _ _ h => h) hst (EffB.run rfl rfl (fun wd hS => ?_)) (.inr (EffB.run rfl rfl (fun wd hS => ?_))) ?_
    · (go_wp2; exact ⟨rfl, Below.refl _ _⟩)
    · (go_wp2; exact ⟨rfl, Below.refl _ _⟩)
    simp only [act_norm]
    refine wpAnyE_done (by kernel_rfl) (fun wd hS => ?_) _
    go_wp2
    go_ret
    exact ⟨rfl, hS.1⟩
theorem u8Info : (Try.prog.info? 5).map (fun i => (i.zero, i.size, i.bytes)) = some (some (.int .u8 0), 1, 1) := by kernel_rfl

theorem Fnv.step_inj (h c d : Nat) (hh : h < 18446744073709551616) (hc : c < 256) (hd : d < 256) (he : Fnv.step h c = Fnv.step h d) : c = d := by
  have inv : ∀ x, x < 18446744073709551616 → x * 1099511628211 % 18446744073709551616 * 14886173955864302971 % 18446744073709551616 = x := fun x hx => by
    rw [Nat.mul_mod, Nat.mod_mod, ← Nat.mul_mod]
    omega
  unfold Fnv.step at he
  have h1 := inv (h ^^^ c) (Nat.xor_lt_two_pow (n := 64) hh (by omega))
  have h2 := inv (h ^^^ d) (Nat.xor_lt_two_pow (n := 64) hh (by omega))
  rw [he, h2] at h1
  have h3 : h ^^^ (h ^^^ d) = h ^^^ (h ^^^ c) := by rw [h1]
  simpa [← Nat.xor_assoc] using h3.symm
theorem foldl_snoc {α β : Type} (f : β → α → β) (b : β) (l : List α) (c : α) : (l ++ [c]).foldl f b = f (l.foldl f b) c := by simp
theorem Fnv.sum_snoc (l : List Nat) (c : Nat) : Fnv.sum (l ++ [c]) = Fnv.step (Fnv.sum l) c := foldl_snoc _ _ l c

set_option maxRecDepth 100000 in
theorem fnvSteps_walk (s : ByteArray) (c d : Nat) (hc : c < 256) (hd : d < 256) (w : World) :
    Calls Try.prog 8 #[.string s, .int .u8 c, .int .u8 d] w fun e w' => e = .returned (.bool true) ∧ Below w.heap.size w w' := by
  by_cases hs : 200 < s.size
  · go_enter Try.func8, Try.ntmps8
    go_wp2_with (with_reducible refine (awake04 _).mono ?_; rintro e w1 ⟨rfl, rfl⟩)
    go_ret
    exact ⟨rfl, Below.refl _ _⟩
  · have hl : ∀ x, x < 256 → ∀ n ∈ Str.bytes s ++ [x], n < 256 := fun x hx n hn => by
      rcases List.mem_append.1 hn with h | h
      · exact Str.lt s n h
      · obtain rfl : n = x := by simpa using h
        exact hx
    have sz : ∀ x, (Str.mk (Str.bytes s ++ [x])).size ≤ 9223372036854775807 := fun x => by rw [Str.mk_size, List.length_append, Str.length]; simp; omega
    have e1 := fnv_sum64 (Str.mk (Str.bytes s ++ [c])) (sz c)
    have e2 := fnv_sum64 (Str.mk (Str.bytes s ++ [d])) (sz d)
    have e3 := fnv_sum64 s (by omega)
    rw [Str.bytes_mk _ (hl c hc), Fnv.sum_snoc] at e1
    rw [Str.bytes_mk _ (hl d hd), Fnv.sum_snoc] at e2
    have hb := Fnv.sum_lt (Str.bytes s)
    have e4 := ref_step (Fnv.sum (Str.bytes s)) c hb hc
    have hi := Fnv.step_inj (Fnv.sum (Str.bytes s)) c d hb hc hd
    obtain ⟨b, eb⟩ : ∃ b, b = Fnv.sum (Str.bytes s) := ⟨_, rfl⟩
    rw [← eb] at e1 e2 e3 e4 hi hb
    clear eb
    have hx := Fnv.step_lt b c
    have hy := Fnv.step_lt b d
    have hxy : c = d → Fnv.step b c = Fnv.step b d := fun h => by rw [h]
    obtain ⟨x, ex⟩ : ∃ x, x = Fnv.step b c := ⟨_, rfl⟩
    obtain ⟨y, ey⟩ : ∃ x, x = Fnv.step b d := ⟨_, rfl⟩
    rw [← ex] at e1 e4 hi hx hxy
    rw [← ey] at e2 hi hy hxy
    clear ex ey
    have HL := Lib.hid hl
    have H1 := Lib.hid e1
    have H2 := Lib.hid e2
    have H3 := Lib.hid e3
    have H4 := Lib.hid e4
    have HI := Lib.hid hi
    have HXY := Lib.hid hxy
    clear hl sz e1 e2 e3 e4 hi hxy
    go_enter Try.func8, Try.ntmps8
    go_wp2_with (first | (with_reducible refine (awake04 _).mono ?_; rintro e w1 ⟨rfl, rfl⟩) | (with_reducible refine wpList_bytes_own rfl 9 46 _ rfl 5 s rfl Try.underlying9 Try.underlying46 Try.underlying5 ?_; first | (have _t := ho1; clear _t; intro v2 w2 ho2 hb2) | intro v1 w1 ho1 hb1) | (at_builtin; refine wpList_append_new rfl _ _ 46 rfl _ _ 5 rfl _ 5 (.int .u8 0) 1 1 Try.underlying46 u8Info rfl (by decide) _ _ _ rfl (by assumption) rfl rfl (by intro u hu; simp at hu; subst hu; rfl) (by unfold maxLen; omega) (by omega) (Below.size (by assumption)) ?_; first | (have _t := ha1; clear _t; intro u2 x2 ha2 hg2 hc2) | intro u1 x1 ha1 hg1 hc1))
    have kb := ((hb1.trans hc1).trans (hb2.mono ((hb1.trans hc1).size))).trans (hc2.mono (hb1.trans hc1).size)
    have k1 := ha1.below (hb2.trans hc2)
    have KB := Lib.hid kb
    have K1 := Lib.hid k1
    have K2 := Lib.hid ha2
    clear kb k1 ha2 ho1 hb1 ha1 hg1 hc1 ho2 hb2 hg2 hc2
    have hst : Stab (fun w' => Below w.heap.size w w' ∧ Owns w' w.heap.size 1 u1 (s.size + 1) (byteVals (Str.bytes s ++ [c])) ∧ Owns w' x1.heap.size 1 u2 (s.size + 1) (byteVals (Str.bytes s ++ [d]))) :=
      fun w1 w2 h hb => ⟨h.1.trans (hb.mono h.1.size), h.2.1.below hb, h.2.2.below hb⟩
    refine wp_region_E mixed [6, 7] hst ⟨below_drew KB.out, (by rw [byteVals_append]; exact K1.out), (by rw [byteVals_append]; exact K2.out)⟩ ?_
    refine wpAnyE_take 0 rfl (by kernel_rfl) (by kernel_rfl) (by kernel_rfl) (fun _ _ _ h => h) hst (EffB.pure rfl (fun _ => rfl)) (.inr (EffB.pure rfl (fun _ => rfl))) ?_
    simp only [act_norm]
    refine wpAnyE_take 1 (v := .string (Str.mk (Str.bytes s ++ [c]))) rfl (by kernel_rfl) (by kernel_rfl) (by kernel_rfl) (fun _ _ _ h => h) hst (EffB.run rfl rfl (fun wd hS => ?_)) (.inl (by kernel_rfl)) ?_
    · have hcv := run_string_own (P := Try.prog) wd 46 9 5 Try.underlying46 Try.underlying5 Try.underlying9 (HL.out c hc) hS.2.1; go_wp2; exact ⟨rfl, Below.refl _ _⟩
    simp only [act_norm]
    refine wpAnyE_take 2 (v := .int .u64 x) rfl (by kernel_rfl) (by kernel_rfl) (by kernel_rfl) (fun _ _ _ h => h) hst (EffB.run rfl rfl (fun wd hS => ?_)) (.inl (by kernel_rfl)) ?_
    · (go_wp2_with fail; (with_reducible refine (H1.out wd).mono ?_); rintro e w'' ⟨rfl, rfl⟩; exact ⟨rfl, Below.refl _ _⟩)
    simp only [act_norm]
    refine wpAnyE_take 3 rfl (by kernel_rfl) (by kernel_rfl) (by kernel_rfl) (fun _ _ _ h => h) hst (EffB.pure rfl (fun _ => rfl)) (.inr (EffB.pure rfl (fun _ => rfl))) ?_
    simp only [act_norm]
    refine wpAnyE_take 4 (v := .string (Str.mk (Str.bytes s ++ [d]))) rfl (by kernel_rfl) (by kernel_rfl) (by kernel_rfl) (fun _ _ _ h => h) hst (EffB.run rfl rfl (fun wd hS => ?_)) (.inl (by kernel_rfl)) ?_
    · have hcv := run_string_own (P := Try.prog) wd 46 9 5 Try.underlying46 Try.underlying5 Try.underlying9 (HL.out d hd) hS.2.2; go_wp2; exact ⟨rfl, Below.refl _ _⟩
    simp only [act_norm]
    refine wpAnyE_take 5 (v := .int .u64 y) rfl (by kernel_rfl) (by kernel_rfl) (by kernel_rfl) (fun _ _ _ h => h) hst (EffB.run rfl rfl (fun wd hS => ?_)) (.inl (by kernel_rfl)) ?_
    · (go_wp2_with fail; (with_reducible refine (H2.out wd).mono ?_); rintro e w'' ⟨rfl, rfl⟩; exact ⟨rfl, Below.refl _ _⟩)
    simp only [act_norm]
    refine wpAnyE_take 6 rfl (by kernel_rfl) (by kernel_rfl) (by kernel_rfl) (fun _ _ _ h => h) hst (EffB.pure rfl (fun _ => rfl)) (.inr (EffB.pure rfl (fun _ => rfl))) ?_
    simp only [act_norm]
    refine wpAnyE_take 7 rfl (by kernel_rfl) (by kernel_rfl) (by kernel_rfl) (fun _ _ _ h => h) hst (EffB.pure rfl (fun _ => rfl)) (.inr (EffB.pure rfl (fun _ => rfl))) ?_
    simp only [act_norm]
    refine wpAnyE_done (by kernel_rfl) (fun wd hS => ?_) _
    have HW := Lib.hid hS.1
    clear hS
    by_cases hcd : c = d
    · subst hcd
      have hxy := HXY.out rfl
      subst hxy
      go_wp2_with (first | (with_reducible refine (H3.out _).mono ?_; rintro e w1 ⟨rfl, rfl⟩) | (with_reducible refine (H4.out _).mono ?_; rintro e w1 ⟨rfl, rfl⟩))
      go_ret
      exact ⟨ret_bool (by simp), HW.out⟩
    · have hxy : ¬ x = y := fun h => hcd (HI.out h)
      have hcdi : ¬ (c : Int) = d := by omega
      have hxyi : ¬ (x : Int) = y := by omega
      go_wp2_with (first | (with_reducible refine (H3.out _).mono ?_; rintro e w1 ⟨rfl, rfl⟩) | (with_reducible refine (H4.out _).mono ?_; rintro e w1 ⟨rfl, rfl⟩))
      go_ret
      exact ⟨ret_bool (by
        have h1 : ((x : Int) == y) = false := by simpa using hxyi
        have h2 : ((c : Int) == d) = false := by simpa using hcdi
        rw [h1, h2]; rfl), HW.out⟩
end Go.Proofs.Ytlniiicpelldaaa
