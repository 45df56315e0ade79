/- Layer 9's reference. -/
import Derived.Test.YtdchooggindihaaStat3
namespace Go.Proofs.Ytdchooggindihaa
open Go.ChangeShapes Go.WideShapes Go.ChangeAt Go.RowKit

set_option maxHeartbeats 1000000 in
set_option maxRecDepth 100000 in
theorem ref09_cut (p : Option Addr) (cap : Nat) (l : List Samp) (lo hi : Int) (hb : l.length ≤ 100000) (w : World) (hs : Samps w p l) :
    Calls Try.prog 18 #[.slice p l.length cap, .int .i64 lo, .int .i64 hi] w (RetOwns w 2 (Samp.cut lo hi l).length (sampVals (Samp.cut lo hi l))) := by
  have HS := Lib.hid hs
  obtain ⟨n, hn⟩ : ∃ n, n = l.length := ⟨_, rfl⟩
  have HG : Hid (Samp.cut lo hi (l.take n) = Samp.cut lo hi l) := by show _ = _; rw [hn, List.take_length]
  obtain ⟨r, hr⟩ : ∃ r, r = Samp.cut lo hi l := ⟨_, rfl⟩
  rw [← hr] at HG ⊢
  rw [← hn] at hb ⊢
  have HN := Lib.hid hn
  clear hs hn hr
  go_enter Try.func18, Try.ntmps18
  go_wp2
  go_loopw [7, 8] (fun v i wr => ∃ k : Nat, k ≤ n ∧ i = .int .i64 k ∧ Owns wr w.heap.size 2 v (Samp.cut lo hi (l.take k)).length (sampVals (Samp.cut lo hi (l.take k))) ∧ Below w.heap.size w wr) (fun _ i _ => n - (intOf i).toNat)
  case atStart => exact ⟨0, by omega, rfl, owns_nil _ _ _, Below.refl _ _⟩
  case round =>
    obtain ⟨k, hk, rfl, hO, hB⟩ := hrel
    by_cases hlt : k < n
    · have hkl : k < l.length := by have := HN.out; omega
      obtain ⟨b, off, rfl, hbw, c0, c1⟩ := HS.out.cells k hkl
      have hsn := Samp.cut_next lo hi l k hkl
      have hle := Samp.cut_le lo hi l k
      rw [← hB.cell (p := ⟨b, _, none⟩) hbw] at c0 c1
      obtain ⟨a, ha⟩ : ∃ a, a = l[k]?.getD default := ⟨_, rfl⟩
      rw [← ha] at c0 c1 hsn
      obtain ⟨xs, hxs⟩ : ∃ s, s = Samp.cut lo hi (l.take k) := ⟨_, rfl⟩
      rw [← hxs] at hsn hle hO
      have HO := Lib.hid hO
      have HB := Lib.hid hB
      clear ha hxs hkl hO hB
      by_cases hin : lo ≤ a.tick ∧ a.tick ≤ hi
      · rw [if_pos hin] at hsn
        obtain ⟨i1, i2⟩ := hin
        have HSN := Lib.hid hsn
        have hBW := HB.out
        clear hsn
        go_wp2_with (at_builtin; refine wpList_append_new rfl _ _ 22 rfl _ _ 74 rfl _ 74 (.agg #[.int .i64 0, .int .i64 0]) 2 16 Try.underlying22 sampInfo rfl (by decide) _ _ _ rfl (HO.out) (by first | rfl | (rw [World.size_alloc]; rfl)) rfl (by first | (simp [Value.oneCell']; done) | (intro u hu; simp at hu; subst hu; rfl)) (by unfold maxLen; omega) (by omega) (Below.size (by assumption)) ?_; intro u1 x1 ha1 hg1 hc1)
        exact ⟨⟨k + 1, by omega, by go_num, by rw [HSN.out, sampVals_append, List.length_append]; exact ha1, HB.out.trans hc1⟩, by simp [intOf]; omega⟩
      · rw [if_neg hin, List.append_nil] at hsn
        have HSN := Lib.hid hsn
        clear hsn
        by_cases i1 : lo ≤ a.tick
        · have i2 : hi < a.tick := by omega
          clear hin
          go_wp2
          exact ⟨⟨k + 1, by omega, by go_num, by rw [HSN.out]; exact HO.out, HB.out⟩, by simp [intOf]; omega⟩
        · have i2 : a.tick < lo := by omega
          have d1 : decide (lo ≤ a.tick) = false := decide_eq_false i1
          clear hin
          go_wp2
          exact ⟨⟨k + 1, by omega, by go_num, by rw [HSN.out]; exact HO.out, HB.out⟩, by simp [intOf]; omega⟩
    · obtain rfl : k = n := by omega
      rw [HG.out] at hO
      go_wp2
      go_ret
      exact ⟨_, rfl, hO, hB⟩

set_option maxHeartbeats 1000000 in
set_option maxRecDepth 100000 in
theorem ref09_values (p : Option Addr) (cap : Nat) (l : List Samp) (hb : l.length ≤ 100000) (w : World) (hs : Samps w p l) :
    Calls Try.prog 21 #[.slice p l.length cap] w (RetOwns w 1 l.length (intVals (Samp.vals l))) := by
  have HS := Lib.hid hs
  obtain ⟨n, hn⟩ : ∃ n, n = l.length := ⟨_, rfl⟩
  have HG : Hid (Samp.vals (l.take n) = Samp.vals l) := by show _ = _; rw [hn, List.take_length]
  obtain ⟨r, hr⟩ : ∃ r, r = Samp.vals l := ⟨_, rfl⟩
  rw [← hr] at HG ⊢
  rw [← hn] at hb ⊢
  have HN := Lib.hid hn
  clear hs hn hr
  go_enter Try.func21, Try.ntmps21
  go_wp2
  go_loopw [3, 4] (fun v i wr => ∃ k : Nat, k ≤ n ∧ i = .int .i64 k ∧ Owns wr w.heap.size 1 v k (intVals (Samp.vals (l.take k))) ∧ Below w.heap.size w wr) (fun _ i _ => n - (intOf i).toNat)
  case atStart => exact ⟨0, by omega, rfl, owns_nil _ _ _, Below.refl _ _⟩
  case round =>
    obtain ⟨k, hk, rfl, hO, hB⟩ := hrel
    by_cases hlt : k < n
    · have hkl : k < l.length := by have := HN.out; omega
      obtain ⟨b, off, rfl, hbw, c0, c1⟩ := HS.out.cells k hkl
      have hsn := Samp.vals_next l k hkl
      rw [← hB.cell (p := ⟨b, _, none⟩) hbw] at c0 c1
      obtain ⟨a, ha⟩ : ∃ a, a = l[k]?.getD default := ⟨_, rfl⟩
      rw [← ha] at c0 c1 hsn
      have HO := Lib.hid hO
      have HB := Lib.hid hB
      have hBW := HB.out
      clear ha hkl hO hB
      by_cases h0 : 0 ≤ a.val
      · rw [show max a.val 0 = a.val by omega] at hsn
        have HSN := Lib.hid hsn
        clear hsn
        go_wp2_with (at_builtin; refine wpList_append_new rfl _ _ 28 rfl _ _ 2 rfl _ 2 (.int .i64 0) 1 8 Try.underlying28 i64Info rfl (by decide) _ _ _ rfl (HO.out) (by first | rfl | (rw [World.size_alloc]; rfl)) rfl (by first | (simp [Value.oneCell']; done) | (intro u hu; simp at hu; subst hu; rfl)) (by unfold maxLen; omega) (by omega) (Below.size (by assumption)) ?_; intro u1 x1 ha1 hg1 hc1)
        exact ⟨⟨k + 1, by omega, by go_num, by rw [HSN.out, intVals_append]; exact ha1, HB.out.trans hc1⟩, by simp [intOf]; omega⟩
      · rw [show max a.val 0 = 0 by omega] at hsn
        have HSN := Lib.hid hsn
        clear hsn
        go_wp2_with (at_builtin; refine wpList_append_new rfl _ _ 28 rfl _ _ 2 rfl _ 2 (.int .i64 0) 1 8 Try.underlying28 i64Info rfl (by decide) _ _ _ rfl (HO.out) (by first | rfl | (rw [World.size_alloc]; rfl)) rfl (by first | (simp [Value.oneCell']; done) | (intro u hu; simp at hu; subst hu; rfl)) (by unfold maxLen; omega) (by omega) (Below.size (by assumption)) ?_; intro u1 x1 ha1 hg1 hc1)
        exact ⟨⟨k + 1, by omega, by go_num, by rw [HSN.out, intVals_append]; exact ha1, HB.out.trans hc1⟩, by simp [intOf]; omega⟩
    · obtain rfl : k = n := by omega
      rw [HG.out] at hO
      go_wp2
      go_ret
      exact ⟨_, rfl, hO, hB⟩

set_option maxHeartbeats 1000000 in
set_option maxRecDepth 100000 in
theorem ref09_mean (p : Option Addr) (cap : Nat) (l : List Int) (hl : ∀ n ∈ l, I64 n) (hp : 0 < l.length) (hb : l.length ≤ 100000) (w : World) (hs : Ints .i64 w p l) :
    Calls Try.prog 68 #[.slice p l.length cap, .int .i64 (Wide.up (Bits.total l) l.length)] w fun e w' => e = .returned (.bool true) ∧ Below w.heap.size w w' := by
  obtain ⟨q, hq, hq2, hup, _⟩ := Wide.mean_is l hl hp
  have h1 := fun W : World => fun h : Ints .i64 W p l => ref_total p cap l W h hl (by omega)
  have h2 := ref_up (Bits.total l) l.length q (Bits.total_lt l hl (by omega)) (by omega) (by omega)
  rw [hup] at h2
  rw [hq]
  obtain ⟨t, et⟩ : ∃ t, t = Bits.total l := ⟨_, rfl⟩
  simp only [← et] at h1
  rw [← et] at h2
  have H1 := Lib.hid h1
  have H2 := Lib.hid h2
  have HS := Lib.hid hs
  obtain ⟨n, hn⟩ : ∃ n, n = l.length := ⟨_, rfl⟩
  rw [← hn] at hp hb H1 H2 ⊢
  clear h1 h2 et hs hn hq hup hl
  have d0 : ((n : Int) == 0) = false := beq_eq_false_iff_ne.2 (by omega)
  have d1 : decide ((0 : Int) ≤ q) = true := decide_eq_true (by omega)
  go_enter Try.func68, Try.ntmps68
  go_wp2_with fail
  (with_reducible refine (H1.out _ HS.out).mono ?_)
  rintro e w1 ⟨rfl, hb1⟩
  have HB := Lib.hid hb1
  clear hb1
  go_wp2_with fail
  (with_reducible refine (H2.out _).mono ?_)
  rintro e w2 ⟨rfl, hb2⟩
  have HB2 := Lib.hid (HB.out.trans (hb2.mono HB.out.size))
  clear hb2
  go_wp2
  go_ret
  exact ⟨rfl, HB2.out⟩

theorem ref09_ends (p : Option Addr) (cap : Nat) (l : List Samp) (hin : ∀ a ∈ l, a.In) (hb : l.length ≤ 100000) (w : World) (hs : Samps w p l) :
    Calls Try.prog 29 #[.slice p l.length cap] w fun e w' => e = .returned (.bool (decide (Sat.sum (Samp.vals l) = 9223372036854775807))) ∧ Below w.heap.size w w' := by
  have hvl := Samp.vals_len l
  have hv64 := Samp.vals_I64 l hin
  have h1 := fun W : World => fun h : Samps W p l => ref09_values p cap l hb W h
  obtain ⟨v, ev⟩ : ∃ v, v = Samp.vals l := ⟨_, rfl⟩
  rw [← ev] at hvl hv64 ⊢
  simp only [← ev] at h1
  have h2 := fun (q : Option Addr) (c : Nat) (W : World) (h : Ints .i64 W q v) => ref_sum q c v W h hv64 (by omega)
  simp only [hvl] at h2
  obtain ⟨s, es⟩ : ∃ x, x = Sat.sum v := ⟨_, rfl⟩
  simp only [← es] at h2
  rw [← es]
  have H1 := Lib.hid h1
  have H2 := Lib.hid h2
  have HS := Lib.hid hs
  have HVL := Lib.hid hvl
  obtain ⟨n, hn⟩ : ∃ n, n = l.length := ⟨_, rfl⟩
  rw [← hn] at hb H1 H2 HVL ⊢
  clear h1 h2 hvl hv64 ev es hs hn
  go_enter Try.func29, Try.ntmps29
  go_wp2_with fail
  (with_reducible refine (H1.out _ HS.out).mono ?_)
  rintro e w1 ⟨u, rfl, hO, hB⟩
  rw [← HVL.out] at hO
  obtain ⟨q, c, rfl, _, hq⟩ := ints_of_owns hO
  rw [HVL.out]
  have HB := Lib.hid hB
  have HQ := Lib.hid hq
  clear hO hB hq
  by_cases hs : s = 9223372036854775807
  · have hb : (s == 9223372036854775807) = true := beq_iff_eq.2 hs
    have hd : Hid (decide (s = 9223372036854775807) = true) := decide_eq_true hs
    clear hs
    go_wp2_with ((with_reducible refine (H2.out _ _ _ HQ.out).mono ?_); rintro e w2 ⟨rfl, rfl⟩)
    go_ret
    exact ⟨ret_bool hd.out.symm, HB.out⟩
  · have hb : (s == 9223372036854775807) = false := beq_eq_false_iff_ne.2 hs
    have hd : Hid (decide (s = 9223372036854775807) = false) := decide_eq_false hs
    clear hs
    go_wp2_with ((with_reducible refine (H2.out _ _ _ HQ.out).mono ?_); rintro e w2 ⟨rfl, rfl⟩)
    go_ret
    exact ⟨ret_bool hd.out.symm, HB.out⟩
end Go.Proofs.Ytdchooggindihaa
