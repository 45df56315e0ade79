/- Layer 9's reference. -/
import Derived.Test.YtcinfpgpldmkaaaStat3
namespace Go.Proofs.Ytcinfpgpldmkaaa
open Go.ChangeShapes Go.WideShapes Go.ChangeAt Go.RowKit

set_option maxHeartbeats 1000000 in
set_option maxRecDepth 100000 in
theorem ref09_cut (p : Option Addr) (cap : Nat) (l : List Samp) (lo hi : Int) (hb : l.length ≤ 100000) (w : World) (hs : Samps w p l) :
    Calls Try.prog 35 #[.slice p l.length cap, .int .i64 lo, .int .i64 hi] w (RetOwns w 2 (Samp.cut lo hi l).length (sampVals (Samp.cut lo hi l))) := by
  have HS := Lib.hid hs
  obtain ⟨n, hn⟩ : ∃ n, n = l.length := ⟨_, rfl⟩
  have HG : Hid (Samp.cut lo hi (l.take n) = Samp.cut lo hi l) := by show _ = _; rw [hn, List.take_length]
  obtain ⟨r, hr⟩ : ∃ r, r = Samp.cut lo hi l := ⟨_, rfl⟩
  rw [← hr] at HG ⊢
  rw [← hn] at hb ⊢
  have HN := Lib.hid hn
  clear hs hn hr
  go_enter Try.func35, Try.ntmps35
  go_wp2
  go_loopw [7, 8] (fun v i wr => ∃ k : Nat, k ≤ n ∧ i = .int .i64 k ∧ Owns wr w.heap.size 2 v (Samp.cut lo hi (l.take k)).length (sampVals (Samp.cut lo hi (l.take k))) ∧ Below w.heap.size w wr) (fun _ i _ => n - (intOf i).toNat)
  case atStart => exact ⟨0, by omega, rfl, owns_nil _ _ _, Below.refl _ _⟩
  case round =>
    obtain ⟨k, hk, rfl, hO, hB⟩ := hrel
    by_cases hlt : k < n
    · have hkl : k < l.length := by have := HN.out; omega
      obtain ⟨b, off, rfl, hbw, c0, c1⟩ := HS.out.cells k hkl
      have hsn := Samp.cut_next lo hi l k hkl
      have hle := Samp.cut_le lo hi l k
      rw [← hB.cell (p := ⟨b, _, none⟩) hbw] at c0 c1
      obtain ⟨a, ha⟩ : ∃ a, a = l[k]?.getD default := ⟨_, rfl⟩
      rw [← ha] at c0 c1 hsn
      obtain ⟨xs, hxs⟩ : ∃ s, s = Samp.cut lo hi (l.take k) := ⟨_, rfl⟩
      rw [← hxs] at hsn hle hO
      have HO := Lib.hid hO
      have HB := Lib.hid hB
      clear ha hxs hkl hO hB
      by_cases hin : lo ≤ a.tick ∧ a.tick ≤ hi
      · rw [if_pos hin] at hsn
        obtain ⟨i1, i2⟩ := hin
        have HSN := Lib.hid hsn
        have hBW := HB.out
        clear hsn
        go_wp2_with (at_builtin; refine wpList_append_new rfl _ _ 45 rfl _ _ 86 rfl _ 86 (.agg #[.int .i64 0, .int .i64 0]) 2 16 Try.underlying45 sampInfo rfl (by decide) _ _ _ rfl (HO.out) (by first | rfl | (rw [World.size_alloc]; rfl)) rfl (by first | (simp [Value.oneCell']; done) | (intro u hu; simp at hu; subst hu; rfl)) (by unfold maxLen; omega) (by omega) (Below.size (by assumption)) ?_; intro u1 x1 ha1 hg1 hc1)
        exact ⟨⟨k + 1, by omega, by go_num, by rw [HSN.out, sampVals_append, List.length_append]; exact ha1, HB.out.trans hc1⟩, by simp [intOf]; omega⟩
      · rw [if_neg hin, List.append_nil] at hsn
        have HSN := Lib.hid hsn
        clear hsn
        by_cases i1 : lo ≤ a.tick
        · have i2 : hi < a.tick := by omega
          clear hin
          go_wp2
          exact ⟨⟨k + 1, by omega, by go_num, by rw [HSN.out]; exact HO.out, HB.out⟩, by simp [intOf]; omega⟩
        · have i2 : a.tick < lo := by omega
          have d1 : decide (lo ≤ a.tick) = false := decide_eq_false i1
          clear hin
          go_wp2
          exact ⟨⟨k + 1, by omega, by go_num, by rw [HSN.out]; exact HO.out, HB.out⟩, by simp [intOf]; omega⟩
    · obtain rfl : k = n := by omega
      rw [HG.out] at hO
      go_wp2
      go_ret
      exact ⟨_, rfl, hO, hB⟩

set_option maxHeartbeats 1000000 in
set_option maxRecDepth 100000 in
theorem ref09_values (p : Option Addr) (cap : Nat) (l : List Samp) (hb : l.length ≤ 100000) (w : World) (hs : Samps w p l) :
    Calls Try.prog 102 #[.slice p l.length cap] w (RetOwns w 1 l.length (intVals (Samp.vals l))) := by
  have HS := Lib.hid hs
  obtain ⟨n, hn⟩ : ∃ n, n = l.length := ⟨_, rfl⟩
  have HG : Hid (Samp.vals (l.take n) = Samp.vals l) := by show _ = _; rw [hn, List.take_length]
  obtain ⟨r, hr⟩ : ∃ r, r = Samp.vals l := ⟨_, rfl⟩
  rw [← hr] at HG ⊢
  rw [← hn] at hb ⊢
  have HN := Lib.hid hn
  clear hs hn hr
  go_enter Try.func102, Try.ntmps102
  go_wp2
  go_loopw [3, 4] (fun v i wr => ∃ k : Nat, k ≤ n ∧ i = .int .i64 k ∧ Owns wr w.heap.size 1 v k (intVals (Samp.vals (l.take k))) ∧ Below w.heap.size w wr) (fun _ i _ => n - (intOf i).toNat)
  case atStart => exact ⟨0, by omega, rfl, owns_nil _ _ _, Below.refl _ _⟩
  case round =>
    obtain ⟨k, hk, rfl, hO, hB⟩ := hrel
    by_cases hlt : k < n
    · have hkl : k < l.length := by have := HN.out; omega
      obtain ⟨b, off, rfl, hbw, c0, c1⟩ := HS.out.cells k hkl
      have hsn := Samp.vals_next l k hkl
      rw [← hB.cell (p := ⟨b, _, none⟩) hbw] at c0 c1
      obtain ⟨a, ha⟩ : ∃ a, a = l[k]?.getD default := ⟨_, rfl⟩
      rw [← ha] at c0 c1 hsn
      have HO := Lib.hid hO
      have HB := Lib.hid hB
      have hBW := HB.out
      clear ha hkl hO hB
      by_cases h0 : 0 ≤ a.val
      · rw [show max a.val 0 = a.val by omega] at hsn
        have HSN := Lib.hid hsn
        clear hsn
        go_wp2_with (at_builtin; refine wpList_append_new rfl _ _ 118 rfl _ _ 2 rfl _ 2 (.int .i64 0) 1 8 Try.underlying118 i64Info rfl (by decide) _ _ _ rfl (HO.out) (by first | rfl | (rw [World.size_alloc]; rfl)) rfl (by first | (simp [Value.oneCell']; done) | (intro u hu; simp at hu; subst hu; rfl)) (by unfold maxLen; omega) (by omega) (Below.size (by assumption)) ?_; intro u1 x1 ha1 hg1 hc1)
        exact ⟨⟨k + 1, by omega, by go_num, by rw [HSN.out, intVals_append]; exact ha1, HB.out.trans hc1⟩, by simp [intOf]; omega⟩
      · rw [show max a.val 0 = 0 by omega] at hsn
        have HSN := Lib.hid hsn
        clear hsn
        go_wp2_with (at_builtin; refine wpList_append_new rfl _ _ 118 rfl _ _ 2 rfl _ 2 (.int .i64 0) 1 8 Try.underlying118 i64Info rfl (by decide) _ _ _ rfl (HO.out) (by first | rfl | (rw [World.size_alloc]; rfl)) rfl (by first | (simp [Value.oneCell']; done) | (intro u hu; simp at hu; subst hu; rfl)) (by unfold maxLen; omega) (by omega) (Below.size (by assumption)) ?_; intro u1 x1 ha1 hg1 hc1)
        exact ⟨⟨k + 1, by omega, by go_num, by rw [HSN.out, intVals_append]; exact ha1, HB.out.trans hc1⟩, by simp [intOf]; omega⟩
    · obtain rfl : k = n := by omega
      rw [HG.out] at hO
      go_wp2
      go_ret
      exact ⟨_, rfl, hO, hB⟩

end Go.Proofs.Ytcinfpgpldmkaaa
