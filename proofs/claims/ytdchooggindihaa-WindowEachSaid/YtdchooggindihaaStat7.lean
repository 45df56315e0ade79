/- Layer 9: window by window. -/
import Derived.Test.YtdchooggindihaaStat6
namespace Go.Proofs.Ytdchooggindihaa
open Go.ChangeShapes Go.WideShapes Go.ChangeAt Go.RowKit

instance : Inhabited Stat := ⟨⟨0, 0, 0, 0, 0⟩⟩
def Stat.get (a : Stat) : Nat → Int
  | 0 => a.count
  | 1 => a.sum
  | 2 => a.least
  | 3 => a.most
  | _ => a.mean
/-- A slice of what is told. -/
def Stats (w : World) (p : Option Addr) (l : List Stat) : Prop := Sl w p l.length 5 (fun j => .int .i64 ((l[j / 5]?.getD default).get (j % 5)))
theorem Stats.below {w w' : World} {p : Option Addr} {l : List Stat} (h : Stats w p l) (hb : Below w.heap.size w w') : Stats w' p l := Sl.below h hb
theorem Stats.cells {w : World} {p : Option Addr} {l : List Stat} (h : Stats w p l) (k : Nat) (hk : k < l.length) :
    ∃ b off, p = some ⟨b, off, none⟩ ∧ b < w.heap.size ∧ w.cell? ⟨b, off + k * 5, none⟩ = some (.int .i64 (l[k]?.getD default).count) ∧ w.cell? ⟨b, off + k * 5 + 1, none⟩ = some (.int .i64 (l[k]?.getD default).sum) ∧
      w.cell? ⟨b, off + k * 5 + 2, none⟩ = some (.int .i64 (l[k]?.getD default).least) ∧ w.cell? ⟨b, off + k * 5 + 3, none⟩ = some (.int .i64 (l[k]?.getD default).most) ∧ w.cell? ⟨b, off + k * 5 + 4, none⟩ = some (.int .i64 (l[k]?.getD default).mean) := by
  obtain ⟨b, off, hp, hb, hc⟩ := Sl.pos h (by omega)
  have key : ∀ i, i < 5 → w.cell? ⟨b, off + k * 5 + i, none⟩ = some (.int .i64 ((l[k]?.getD default).get i)) := by
    intro i hi
    have := hc (k * 5 + i) (by omega)
    rw [← Nat.add_assoc, show (k * 5 + i) / 5 = k by omega, show (k * 5 + i) % 5 = i by omega] at this
    exact this
  exact ⟨b, off, hp, hb, key 0 (by omega), key 1 (by omega), key 2 (by omega), key 3 (by omega), key 4 (by omega)⟩
def statVals : List Stat → List Value
  | [] => []
  | a :: l => .int .i64 a.count :: .int .i64 a.sum :: .int .i64 a.least :: .int .i64 a.most :: .int .i64 a.mean :: statVals l
theorem statVals_append : ∀ l m : List Stat, statVals (l ++ m) = statVals l ++ statVals m
  | [], m => rfl
  | a :: l, m => by simp [statVals, statVals_append l m]
theorem statVals_get : ∀ (l : List Stat) (j : Nat), j < l.length * 5 → (statVals l)[j]? = some (.int .i64 ((l[j / 5]?.getD default).get (j % 5)))
  | [], j, h => by simp at h
  | a :: l, j, h => by
    match j, h with
    | 0, _ => rfl
    | 1, _ => rfl
    | 2, _ => rfl
    | 3, _ => rfl
    | 4, _ => rfl
    | j + 5, h =>
      have ih := statVals_get l j (by simp at h; omega)
      rw [show (j + 5) / 5 = j / 5 + 1 by omega, show (j + 5) % 5 = j % 5 by omega]
      simpa [statVals] using ih
theorem stats_of_owns {w : World} {B : Nat} {v : Value} {l : List Stat} (h : Owns w B 5 v l.length (statVals l)) : ∃ p cap, v = .slice p l.length cap ∧ l.length ≤ cap ∧ Stats w p l := by
  obtain ⟨p, cap, hv, hc, _, hs, _⟩ := h.sl
  refine ⟨p, cap, hv, hc, ?_⟩
  rcases hs with hs | ⟨b, off, hp, hb, hcell⟩
  · exact .inl hs
  · refine .inr ⟨b, off, hp, hb, fun j hj => ?_⟩
    rw [hcell j hj]
    show some ((statVals l)[j]?.getD undef) = some (.int .i64 ((l[j / 5]?.getD default).get (j % 5)))
    rw [statVals_get l j hj]
    rfl
theorem statInfo5 : (Try.prog.info? 32).map (fun i => (i.zero, i.size, i.bytes)) = some (some (.agg #[.int .i64 0, .int .i64 0, .int .i64 0, .int .i64 0, .int .i64 0]), 5, 40) := by kernel_rfl

/-- Where the windows end. -/
def Win.at (to width : Int) : Nat → Int
  | 0 => to
  | k + 1 => Sat.clamp (Win.at to width k - max width 0)
theorem Win.at_I64 (to width : Int) (h : I64 to) : ∀ k, I64 (Win.at to width k)
  | 0 => h
  | _ + 1 => Sat.clamp_I64 _
def Win.stat (l : List Samp) (to width : Int) (k : Nat) : Stat := Stat.of (Samp.vals (Samp.cut (Win.from (Win.at to width k) width) (Win.at to width k) l))
def Win.stats (l : List Samp) (to width : Int) (k : Nat) : List Stat := (List.range k).map (Win.stat l to width)
theorem Win.stats_next (l : List Samp) (to width : Int) (k : Nat) : Win.stats l to width (k + 1) = Win.stats l to width k ++ [Win.stat l to width k] := by
  unfold Win.stats
  rw [List.range_succ, List.map_append]
  rfl
theorem Win.stats_len (l : List Samp) (to width : Int) (k : Nat) : (Win.stats l to width k).length = k := by simp [Win.stats]
theorem Win.stats_get (l : List Samp) (to width : Int) (n k : Nat) (h : k < n) : (Win.stats l to width n)[k]?.getD default = Win.stat l to width k := by simp [Win.stats, h]

set_option maxHeartbeats 2000000 in
set_option maxRecDepth 100000 in
theorem window_each_le (p : Option Addr) (cap : Nat) (l : List Samp) (hin : ∀ a ∈ l, a.In) (hb : l.length ≤ 100000) (to width n : Int) (ht : I64 to) (hw : I64 width) (hn : I64 n) (h256 : ¬ 256 < n) (N : Nat) (hN : N = (n : Int).toNat) (w : World) (hs : Samps w p l) :
    Calls Try.prog 30 #[.slice p l.length cap, .int .i64 to, .int .i64 width, .int .i64 n] w (RetOwns w 5 N (statVals (Win.stats l to width N))) := by
  have hat := fun (k : Nat) (W : World) (h : Samps W p l) => window_at p cap l hin hb (Win.at to width k) width (Win.at_I64 to width ht k) hw (Win.stat l to width k) rfl W h
  have hsb := fun (k : Nat) => sat_sub (Win.at to width k) (max width 0) (Win.at_I64 to width ht k) (by unfold I64 at *; omega)
  obtain ⟨n1, n2⟩ := hn
  have w1 := hw.1
  have w2 := hw.2
  have HAT := Lib.hid hat
  have HSB := Lib.hid hsb
  have HI := Lib.hid (Win.at_I64 to width ht)
  have HS := Lib.hid hs
  have HNX := Lib.hid (Win.stats_next l to width)
  obtain ⟨len, hlen⟩ : ∃ n, n = l.length := ⟨_, rfl⟩
  simp only [← hlen] at HAT ⊢
  clear hat hsb hs hin hb hw ht hlen
  go_enter Try.func30, Try.ntmps30
  go_wp2
  go_loopw [1, 9, 12] (fun t v i wr => ∃ k : Nat, k ≤ N ∧ i = .int .i64 k ∧ t = .int .i64 (Win.at to width k) ∧ Owns wr w.heap.size 5 v k (statVals (Win.stats l to width k)) ∧ Below w.heap.size w wr) (fun _ _ i _ => N - (intOf i).toNat)
  case atStart => exact ⟨0, by omega, rfl, rfl, owns_nil _ _ _, Below.refl _ _⟩
  case round =>
    obtain ⟨k, hk, rfl, rfl, hO, hB⟩ := hrel
    by_cases hlt : k < N
    · have hlt2 : (k : Int) < n := by omega
      have hnx := HNX.out k
      have hat := HAT.out k
      have hsb := HSB.out k
      have hti := HI.out k
      have hat1 : Win.at to width (k + 1) = Sat.clamp (Win.at to width k - max width 0) := rfl
      obtain ⟨s, es⟩ : ∃ s, s = Win.stat l to width k := ⟨_, rfl⟩
      obtain ⟨t, et⟩ : ∃ s, s = Win.at to width k := ⟨_, rfl⟩
      obtain ⟨L, eL⟩ : ∃ s, s = Win.stats l to width k := ⟨_, rfl⟩
      simp only [← es, ← et, ← eL] at hnx hat hsb hti hat1 hO ⊢
      obtain ⟨t2, et2⟩ : ∃ s, s = Sat.clamp (t - max width 0) := ⟨_, rfl⟩
      simp only [← et2] at hsb hat1
      have AT := Lib.hid hat
      have SB := Lib.hid hsb
      have NX := Lib.hid hnx
      have A1 := Lib.hid hat1
      have HO := Lib.hid hO
      have HB := Lib.hid hB
      obtain ⟨i1, i2⟩ := hti
      clear hnx hat hsb hat1 hO hB es et eL et2
      go_wp2_with fail
      (with_reducible refine (AT.out _ (HS.out.below HB.out)).mono ?_)
      rintro e wa ⟨rfl, hba⟩
      have hoa := HO.out.below hba
      have HOA := Lib.hid hoa
      have hBW := HB.out.trans (hba.mono HB.out.size)
      clear hoa hba HO HB AT
      by_cases hw0 : width < 0
      · rw [show max width 0 = 0 by omega] at SB
        go_wp2_with (first | (at_builtin; refine wpList_append_new rfl _ _ 38 rfl _ _ 32 rfl _ 32 (.agg #[.int .i64 0, .int .i64 0, .int .i64 0, .int .i64 0, .int .i64 0]) 5 40 Try.underlying38 statInfo5 rfl (by decide) _ _ _ rfl (HOA.out) (by first | rfl | (rw [World.size_alloc]; rfl)) rfl (by first | (simp [Value.oneCell']; done) | (intro u hu; simp at hu; subst hu; rfl)) (by unfold maxLen; omega) (by omega) (Below.size (by assumption)) ?_; intro u1 x1 ha1 hg1 hc1) | ((with_reducible refine (SB.out _).mono ?_); rintro e wc ⟨rfl, rfl⟩))
        exact ⟨⟨k + 1, by omega, by go_num, by rw [A1.out], by rw [NX.out, statVals_append]; exact ha1, hBW.trans hc1⟩, by simp [intOf]; omega⟩
      · rw [show max width 0 = width by omega] at SB
        go_wp2_with (first | (at_builtin; refine wpList_append_new rfl _ _ 38 rfl _ _ 32 rfl _ 32 (.agg #[.int .i64 0, .int .i64 0, .int .i64 0, .int .i64 0, .int .i64 0]) 5 40 Try.underlying38 statInfo5 rfl (by decide) _ _ _ rfl (HOA.out) (by first | rfl | (rw [World.size_alloc]; rfl)) rfl (by first | (simp [Value.oneCell']; done) | (intro u hu; simp at hu; subst hu; rfl)) (by unfold maxLen; omega) (by omega) (Below.size (by assumption)) ?_; intro u1 x1 ha1 hg1 hc1) | ((with_reducible refine (SB.out _).mono ?_); rintro e wc ⟨rfl, rfl⟩))
        exact ⟨⟨k + 1, by omega, by go_num, by rw [A1.out], by rw [NX.out, statVals_append]; exact ha1, hBW.trans hc1⟩, by simp [intOf]; omega⟩
    · obtain rfl : k = N := by omega
      have hlt2 : ¬ (k : Int) < n := by omega
      clear hN
      go_wp2
      go_ret
      exact ⟨_, rfl, hO, hB⟩

set_option maxHeartbeats 2000000 in
set_option maxRecDepth 100000 in
theorem window_each_gt (p : Option Addr) (cap : Nat) (l : List Samp) (hin : ∀ a ∈ l, a.In) (hb : l.length ≤ 100000) (to width n : Int) (ht : I64 to) (hw : I64 width) (hn : I64 n) (h256 : 256 < n) (N : Nat) (hN : N = (256 : Int).toNat) (w : World) (hs : Samps w p l) :
    Calls Try.prog 30 #[.slice p l.length cap, .int .i64 to, .int .i64 width, .int .i64 n] w (RetOwns w 5 N (statVals (Win.stats l to width N))) := by
  have hat := fun (k : Nat) (W : World) (h : Samps W p l) => window_at p cap l hin hb (Win.at to width k) width (Win.at_I64 to width ht k) hw (Win.stat l to width k) rfl W h
  have hsb := fun (k : Nat) => sat_sub (Win.at to width k) (max width 0) (Win.at_I64 to width ht k) (by unfold I64 at *; omega)
  obtain ⟨n1, n2⟩ := hn
  have w1 := hw.1
  have w2 := hw.2
  have HAT := Lib.hid hat
  have HSB := Lib.hid hsb
  have HI := Lib.hid (Win.at_I64 to width ht)
  have HS := Lib.hid hs
  have HNX := Lib.hid (Win.stats_next l to width)
  obtain ⟨len, hlen⟩ : ∃ n, n = l.length := ⟨_, rfl⟩
  simp only [← hlen] at HAT ⊢
  clear hat hsb hs hin hb hw ht hlen
  go_enter Try.func30, Try.ntmps30
  go_wp2
  go_loopw [1, 9, 12] (fun t v i wr => ∃ k : Nat, k ≤ N ∧ i = .int .i64 k ∧ t = .int .i64 (Win.at to width k) ∧ Owns wr w.heap.size 5 v k (statVals (Win.stats l to width k)) ∧ Below w.heap.size w wr) (fun _ _ i _ => N - (intOf i).toNat)
  case atStart => exact ⟨0, by omega, rfl, rfl, owns_nil _ _ _, Below.refl _ _⟩
  case round =>
    obtain ⟨k, hk, rfl, rfl, hO, hB⟩ := hrel
    by_cases hlt : k < N
    · have hlt2 : (k : Int) < 256 := by omega
      have hnx := HNX.out k
      have hat := HAT.out k
      have hsb := HSB.out k
      have hti := HI.out k
      have hat1 : Win.at to width (k + 1) = Sat.clamp (Win.at to width k - max width 0) := rfl
      obtain ⟨s, es⟩ : ∃ s, s = Win.stat l to width k := ⟨_, rfl⟩
      obtain ⟨t, et⟩ : ∃ s, s = Win.at to width k := ⟨_, rfl⟩
      obtain ⟨L, eL⟩ : ∃ s, s = Win.stats l to width k := ⟨_, rfl⟩
      simp only [← es, ← et, ← eL] at hnx hat hsb hti hat1 hO ⊢
      obtain ⟨t2, et2⟩ : ∃ s, s = Sat.clamp (t - max width 0) := ⟨_, rfl⟩
      simp only [← et2] at hsb hat1
      have AT := Lib.hid hat
      have SB := Lib.hid hsb
      have NX := Lib.hid hnx
      have A1 := Lib.hid hat1
      have HO := Lib.hid hO
      have HB := Lib.hid hB
      obtain ⟨i1, i2⟩ := hti
      clear hnx hat hsb hat1 hO hB es et eL et2
      go_wp2_with fail
      (with_reducible refine (AT.out _ (HS.out.below HB.out)).mono ?_)
      rintro e wa ⟨rfl, hba⟩
      have hoa := HO.out.below hba
      have HOA := Lib.hid hoa
      have hBW := HB.out.trans (hba.mono HB.out.size)
      clear hoa hba HO HB AT
      by_cases hw0 : width < 0
      · rw [show max width 0 = 0 by omega] at SB
        go_wp2_with (first | (at_builtin; refine wpList_append_new rfl _ _ 38 rfl _ _ 32 rfl _ 32 (.agg #[.int .i64 0, .int .i64 0, .int .i64 0, .int .i64 0, .int .i64 0]) 5 40 Try.underlying38 statInfo5 rfl (by decide) _ _ _ rfl (HOA.out) (by first | rfl | (rw [World.size_alloc]; rfl)) rfl (by first | (simp [Value.oneCell']; done) | (intro u hu; simp at hu; subst hu; rfl)) (by unfold maxLen; omega) (by omega) (Below.size (by assumption)) ?_; intro u1 x1 ha1 hg1 hc1) | ((with_reducible refine (SB.out _).mono ?_); rintro e wc ⟨rfl, rfl⟩))
        exact ⟨⟨k + 1, by omega, by go_num, by rw [A1.out], by rw [NX.out, statVals_append]; exact ha1, hBW.trans hc1⟩, by simp [intOf]; omega⟩
      · rw [show max width 0 = width by omega] at SB
        go_wp2_with (first | (at_builtin; refine wpList_append_new rfl _ _ 38 rfl _ _ 32 rfl _ 32 (.agg #[.int .i64 0, .int .i64 0, .int .i64 0, .int .i64 0, .int .i64 0]) 5 40 Try.underlying38 statInfo5 rfl (by decide) _ _ _ rfl (HOA.out) (by first | rfl | (rw [World.size_alloc]; rfl)) rfl (by first | (simp [Value.oneCell']; done) | (intro u hu; simp at hu; subst hu; rfl)) (by unfold maxLen; omega) (by omega) (Below.size (by assumption)) ?_; intro u1 x1 ha1 hg1 hc1) | ((with_reducible refine (SB.out _).mono ?_); rintro e wc ⟨rfl, rfl⟩))
        exact ⟨⟨k + 1, by omega, by go_num, by rw [A1.out], by rw [NX.out, statVals_append]; exact ha1, hBW.trans hc1⟩, by simp [intOf]; omega⟩
    · obtain rfl : k = N := by omega
      have hlt2 : ¬ (k : Int) < 256 := by omega
      clear hN
      go_wp2
      go_ret
      exact ⟨_, rfl, hO, hB⟩

theorem window_each (p : Option Addr) (cap : Nat) (l : List Samp) (hin : ∀ a ∈ l, a.In) (hb : l.length ≤ 100000) (to width n : Int) (ht : I64 to) (hw : I64 width) (hn : I64 n) (N : Nat) (hN : N = (min n 256).toNat) (w : World) (hs : Samps w p l) :
    Calls Try.prog 30 #[.slice p l.length cap, .int .i64 to, .int .i64 width, .int .i64 n] w (RetOwns w 5 N (statVals (Win.stats l to width N))) := by
  by_cases h : 256 < n
  · exact window_each_gt p cap l hin hb to width n ht hw hn h N (by omega) w hs
  · exact window_each_le p cap l hin hb to width n ht hw hn h N (by omega) w hs
end Go.Proofs.Ytdchooggindihaa
