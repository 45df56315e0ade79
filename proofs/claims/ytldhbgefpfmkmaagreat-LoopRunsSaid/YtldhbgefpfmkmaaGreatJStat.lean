/- General lemmas of several texts, one after another. -/
import Derived.Test.YtldhbgefpfmkmaaGreatJSamp
import Derived.Test.YtldhbgefpfmkmaaGreatJBase
import Derived.Test.YtldhbgefpfmkmaaGreatJWide3
import Derived.Test.YtldhbgefpfmkmaaGreatJRef02c
/- What a window tells (layer 9): sums, least, most, mean. -/
namespace Go.Proofs.YtldhbgefpfmkmaaGreat
open Go.ChangeShapes Go.WideShapes Go.ChangeAt Go.RowKit

theorem foldl_next' {α β : Type} (f : β → α → β) (b : β) (d : α) (l : List α) (k : Nat) (h : k < l.length) : (l.take (k + 1)).foldl f b = f ((l.take k).foldl f b) (l[k]?.getD d) := by
  rw [List.take_succ_eq_append_getElem h, List.foldl_append, List.getElem?_eq_getElem h]
  rfl

def lmin (v : List Int) : Int := v.foldl min (v[0]?.getD 0)
def lmax (v : List Int) : Int := v.foldl max (v[0]?.getD 0)

theorem lmin_fold : ∀ (v : List Int) (m : Int), (v.foldl min m = m ∨ v.foldl min m ∈ v) ∧ v.foldl min m ≤ m ∧ ∀ x ∈ v, v.foldl min m ≤ x
  | [], m => by simp
  | a :: v, m => by
    obtain ⟨h1, h2, h3⟩ := lmin_fold v (min m a)
    simp only [List.foldl_cons]
    refine ⟨?_, by omega, ?_⟩
    · rcases h1 with h1 | h1
      · rcases Int.le_total m a with h | h
        · left; rw [h1]; omega
        · right; rw [h1, show min m a = a by omega]; simp
      · right; simp [h1]
    · intro x hx
      rcases List.mem_cons.1 hx with rfl | hx
      · omega
      · exact h3 x hx
theorem lmax_fold : ∀ (v : List Int) (m : Int), (v.foldl max m = m ∨ v.foldl max m ∈ v) ∧ m ≤ v.foldl max m ∧ ∀ x ∈ v, x ≤ v.foldl max m
  | [], m => by simp
  | a :: v, m => by
    obtain ⟨h1, h2, h3⟩ := lmax_fold v (max m a)
    simp only [List.foldl_cons]
    refine ⟨?_, by omega, ?_⟩
    · rcases h1 with h1 | h1
      · rcases Int.le_total a m with h | h
        · left; rw [h1]; omega
        · right; rw [h1, show max m a = a by omega]; simp
      · right; simp [h1]
    · intro x hx
      rcases List.mem_cons.1 hx with rfl | hx
      · omega
      · exact h3 x hx
theorem head_mem {v : List Int} (h : v ≠ []) : v[0]?.getD 0 ∈ v := by
  cases v with
  | nil => exact absurd rfl h
  | cons a v => simp
theorem lmin_spec {v : List Int} (h : v ≠ []) : lmin v ∈ v ∧ ∀ x ∈ v, lmin v ≤ x := by
  obtain ⟨h1, _, h3⟩ := lmin_fold v (v[0]?.getD 0)
  refine ⟨?_, h3⟩
  rcases h1 with h1 | h1
  · unfold lmin; rw [h1]; exact head_mem h
  · exact h1
theorem lmax_spec {v : List Int} (h : v ≠ []) : lmax v ∈ v ∧ ∀ x ∈ v, x ≤ lmax v := by
  obtain ⟨h1, _, h3⟩ := lmax_fold v (v[0]?.getD 0)
  refine ⟨?_, h3⟩
  rcases h1 with h1 | h1
  · unfold lmax; rw [h1]; exact head_mem h
  · exact h1
theorem lmin_of {v : List Int} {m : Int} (h : m ∈ v) (h2 : ∀ x ∈ v, m ≤ x) : lmin v = m := by
  have hne : v ≠ [] := fun e => by rw [e] at h; cases h
  obtain ⟨a, b⟩ := lmin_spec hne
  have := b m h
  have := h2 _ a
  omega
theorem lmax_of {v : List Int} {m : Int} (h : m ∈ v) (h2 : ∀ x ∈ v, x ≤ m) : lmax v = m := by
  have hne : v ≠ [] := fun e => by rw [e] at h; cases h
  obtain ⟨a, b⟩ := lmax_spec hne
  have := b m h
  have := h2 _ a
  omega
theorem lmin_append {a b : List Int} (ha : a ≠ []) (hb : b ≠ []) : lmin (a ++ b) = min (lmin a) (lmin b) := by
  obtain ⟨a1, a2⟩ := lmin_spec ha
  obtain ⟨b1, b2⟩ := lmin_spec hb
  apply lmin_of
  · rcases Int.le_total (lmin a) (lmin b) with h | h
    · rw [show min (lmin a) (lmin b) = lmin a by omega]; exact List.mem_append_left _ a1
    · rw [show min (lmin a) (lmin b) = lmin b by omega]; exact List.mem_append_right _ b1
  · intro x hx
    rcases List.mem_append.1 hx with h | h
    · have := a2 x h; omega
    · have := b2 x h; omega
theorem lmax_append {a b : List Int} (ha : a ≠ []) (hb : b ≠ []) : lmax (a ++ b) = max (lmax a) (lmax b) := by
  obtain ⟨a1, a2⟩ := lmax_spec ha
  obtain ⟨b1, b2⟩ := lmax_spec hb
  apply lmax_of
  · rcases Int.le_total (lmax a) (lmax b) with h | h
    · rw [show max (lmax a) (lmax b) = lmax b by omega]; exact List.mem_append_right _ b1
    · rw [show max (lmax a) (lmax b) = lmax a by omega]; exact List.mem_append_left _ a1
  · intro x hx
    rcases List.mem_append.1 hx with h | h
    · have := a2 x h; omega
    · have := b2 x h; omega

theorem total_fold : ∀ (l : List Int) (s : Nat), l.foldl (fun s n => s + n.toNat) s = s + Bits.total l
  | [], s => by simp [Bits.total]
  | a :: l, s => by
    have h1 := total_fold l (s + a.toNat)
    have h2 := total_fold l (0 + a.toNat)
    simp only [List.foldl_cons, Bits.total] at *
    omega
theorem total_append (a b : List Int) : Bits.total (a ++ b) = Bits.total a + Bits.total b := by
  unfold Bits.total
  rw [List.foldl_append, total_fold b]
  rfl
theorem sum_fold : ∀ (l : List Int) (T : Nat), (∀ n ∈ l, 0 ≤ n) → l.foldl (fun s n => Sat.clamp (s + n)) (Sat.clamp T) = Sat.clamp ((T + Bits.total l : Nat) : Int)
  | [], T, _ => by simp [Bits.total]
  | a :: l, T, h => by
    have ha := h a (by simp)
    simp only [List.foldl_cons]
    have e : Sat.clamp (Sat.clamp (T : Int) + a) = Sat.clamp ((T + a.toNat : Nat) : Int) := by
      have h3 : ((T + a.toNat : Nat) : Int) = T + a := by omega
      by_cases hT : (T : Int) ≤ 9223372036854775807
      · rw [Sat.clamp_of (x := (T : Int)) ⟨by omega, hT⟩, h3]
      · have h1 : Sat.clamp (T : Int) = 9223372036854775807 := by unfold Sat.clamp; rw [if_neg (by omega), if_pos (by omega)]
        have h2 : ∀ y : Int, 9223372036854775807 ≤ y → Sat.clamp y = 9223372036854775807 := fun y hy => by
          unfold Sat.clamp
          rw [if_neg (by omega)]
          split <;> omega
        rw [h1, h2 _ (by omega), h2 _ (by omega)]
    rw [e, sum_fold l _ (fun n hn => h n (by simp [hn]))]
    congr 2
    have h2 := total_fold l (0 + a.toNat)
    simp only [Bits.total, List.foldl_cons] at *
    omega
/-- A sum of numbers that are not below zero. -/
theorem sum_total (l : List Int) (h : ∀ n ∈ l, 0 ≤ n) : Sat.sum l = Sat.clamp (Bits.total l : Nat) := by
  have := sum_fold l 0 h
  rw [Nat.zero_add] at this
  exact this

/-- What is told of values. -/
structure Stat where
  count : Int
  sum : Int
  least : Int
  most : Int
  mean : Int
deriving DecidableEq
def Stat.of (v : List Int) : Stat := if v.length = 0 then ⟨0, 0, 0, 0, 0⟩ else ⟨v.length, Sat.sum v, lmin v, lmax v, Wide.up (Bits.total v) v.length⟩
theorem Stat.of_nil {v : List Int} (h : v.length = 0) : Stat.of v = ⟨0, 0, 0, 0, 0⟩ := by unfold Stat.of; rw [if_pos h]
theorem Stat.of_some {v : List Int} (h : ¬ v.length = 0) : Stat.of v = ⟨v.length, Sat.sum v, lmin v, lmax v, Wide.up (Bits.total v) v.length⟩ := by unfold Stat.of; rw [if_neg h]
/-- In whatever order. -/
theorem Stat.swap (a b : List Int) (ha : ∀ n ∈ a, 0 ≤ n) (hb : ∀ n ∈ b, 0 ≤ n) : Stat.of (a ++ b) = Stat.of (b ++ a) := by
  by_cases h0 : a = []
  · subst h0; simp
  by_cases h1 : b = []
  · subst h1; simp
  have la : 0 < a.length := List.length_pos_iff.2 h0
  have lb : 0 < b.length := List.length_pos_iff.2 h1
  rw [Stat.of_some (by rw [List.length_append]; omega), Stat.of_some (by rw [List.length_append]; omega)]
  have hs : ∀ x y : List Int, (∀ n ∈ x, 0 ≤ n) → (∀ n ∈ y, 0 ≤ n) → Sat.sum (x ++ y) = Sat.clamp ((Bits.total x + Bits.total y : Nat) : Int) := fun x y hx hy => by
    rw [sum_total _ (fun n hn => by rcases List.mem_append.1 hn with h | h; exact hx n h; exact hy n h), total_append]
  rw [hs a b ha hb, hs b a hb ha, lmin_append h0 h1, lmin_append h1 h0, lmax_append h0 h1, lmax_append h1 h0, total_append, total_append, List.length_append, List.length_append, Nat.add_comm (Bits.total b), Nat.add_comm b.length, Int.min_comm, Int.max_comm]

set_option maxHeartbeats 1000000 in
set_option maxRecDepth 100000 in
theorem slices_min (p : Option Addr) (cap : Nat) (l : List Int) (hp : 0 < l.length) (hb : l.length ≤ 100000) (w : World) (hs : Ints .i64 w p l) :
    Calls Tryz.prog 96 #[.slice p l.length cap] w fun e w' => e = .returned (.int .i64 (lmin l)) ∧ w = w' := by
  have HS := Lib.hid hs
  have HG : Hid ((l.take l.length).foldl min (l[0]?.getD 0) = lmin l) := by show _ = _; rw [List.take_length]; rfl
  obtain ⟨r, hr⟩ : ∃ r, r = lmin l := ⟨_, rfl⟩
  rw [← hr] at HG ⊢
  obtain ⟨n, hn⟩ : ∃ n, n = l.length := ⟨_, rfl⟩
  rw [← hn] at HG hb hp ⊢
  have HN := Lib.hid hn
  obtain ⟨b, off, rfl, hbw, hc⟩ := HS.out.pos (by omega)
  have c0 := hc 0 (by omega)
  rw [Nat.add_zero] at c0
  have HC := Lib.hid hc
  have H1 : Hid ((l.take 1).foldl min (l[0]?.getD 0) = l[0]?.getD 0) := by
    show _ = _
    cases l with
    | nil => simp at hn; omega
    | cons a l => simp
  obtain ⟨a0, e0⟩ : ∃ a, a = l[0]?.getD 0 := ⟨_, rfl⟩
  rw [← e0] at c0 H1 HG
  clear hs hr hn hc e0
  go_enter Tryz.func96, Tryz.ntmps96
  go_wp2
  go_loop [3, 4] (fun m i => ∃ k : Nat, 1 ≤ k ∧ k ≤ n ∧ i = .int .i64 k ∧ m = .int .i64 ((l.take k).foldl min a0)) (fun _ i => n - (intOf i).toNat)
  case atStart => exact ⟨1, by omega, by omega, rfl, by rw [H1.out]⟩
  case round =>
    obtain ⟨k, hk1, hk, rfl, rfl⟩ := hrel
    by_cases hlt : k < n
    · have g1 := HC.out k (by have := HN.out; omega)
      have hnx := foldl_next' min a0 0 l k (by have := HN.out; omega)
      obtain ⟨x, ex⟩ : ∃ x, x = l[k]?.getD 0 := ⟨_, rfl⟩
      rw [← ex] at g1 hnx
      obtain ⟨m, em⟩ : ∃ m, m = (l.take k).foldl min a0 := ⟨_, rfl⟩
      rw [← em] at hnx ⊢
      clear ex em
      by_cases hxm : m ≤ x
      · rw [show min m x = m by omega] at hnx
        have HX := Lib.hid hnx
        clear hnx
        go_wp2
        exact ⟨⟨k + 1, by omega, by omega, by go_num, by rw [HX.out]⟩, by simp [intOf]; omega⟩
      · have hxm2 : x < m := by omega
        rw [show min m x = x by omega] at hnx
        clear hxm
        have HX := Lib.hid hnx
        clear hnx
        go_wp2
        exact ⟨⟨k + 1, by omega, by omega, by go_num, by rw [HX.out]⟩, by simp [intOf]; omega⟩
    · obtain rfl : k = n := by omega
      rw [HG.out]
      go_wp2
      go_ret
      exact ⟨rfl, rfl⟩
set_option maxHeartbeats 1000000 in
set_option maxRecDepth 100000 in
theorem slices_max (p : Option Addr) (cap : Nat) (l : List Int) (hp : 0 < l.length) (hb : l.length ≤ 100000) (w : World) (hs : Ints .i64 w p l) :
    Calls Tryz.prog 97 #[.slice p l.length cap] w fun e w' => e = .returned (.int .i64 (lmax l)) ∧ w = w' := by
  have HS := Lib.hid hs
  have HG : Hid ((l.take l.length).foldl max (l[0]?.getD 0) = lmax l) := by show _ = _; rw [List.take_length]; rfl
  obtain ⟨r, hr⟩ : ∃ r, r = lmax l := ⟨_, rfl⟩
  rw [← hr] at HG ⊢
  obtain ⟨n, hn⟩ : ∃ n, n = l.length := ⟨_, rfl⟩
  rw [← hn] at HG hb hp ⊢
  have HN := Lib.hid hn
  obtain ⟨b, off, rfl, hbw, hc⟩ := HS.out.pos (by omega)
  have c0 := hc 0 (by omega)
  rw [Nat.add_zero] at c0
  have HC := Lib.hid hc
  have H1 : Hid ((l.take 1).foldl max (l[0]?.getD 0) = l[0]?.getD 0) := by
    show _ = _
    cases l with
    | nil => simp at hn; omega
    | cons a l => simp
  obtain ⟨a0, e0⟩ : ∃ a, a = l[0]?.getD 0 := ⟨_, rfl⟩
  rw [← e0] at c0 H1 HG
  clear hs hr hn hc e0
  go_enter Tryz.func97, Tryz.ntmps97
  go_wp2
  go_loop [3, 4] (fun m i => ∃ k : Nat, 1 ≤ k ∧ k ≤ n ∧ i = .int .i64 k ∧ m = .int .i64 ((l.take k).foldl max a0)) (fun _ i => n - (intOf i).toNat)
  case atStart => exact ⟨1, by omega, by omega, rfl, by rw [H1.out]⟩
  case round =>
    obtain ⟨k, hk1, hk, rfl, rfl⟩ := hrel
    by_cases hlt : k < n
    · have g1 := HC.out k (by have := HN.out; omega)
      have hnx := foldl_next' max a0 0 l k (by have := HN.out; omega)
      obtain ⟨x, ex⟩ : ∃ x, x = l[k]?.getD 0 := ⟨_, rfl⟩
      rw [← ex] at g1 hnx
      obtain ⟨m, em⟩ : ∃ m, m = (l.take k).foldl max a0 := ⟨_, rfl⟩
      rw [← em] at hnx ⊢
      clear ex em
      by_cases hxm : x ≤ m
      · rw [show max m x = m by omega] at hnx
        have HX := Lib.hid hnx
        clear hnx
        go_wp2
        exact ⟨⟨k + 1, by omega, by omega, by go_num, by rw [HX.out]⟩, by simp [intOf]; omega⟩
      · have hxm2 : m < x := by omega
        rw [show max m x = x by omega] at hnx
        clear hxm
        have HX := Lib.hid hnx
        clear hnx
        go_wp2
        exact ⟨⟨k + 1, by omega, by omega, by go_num, by rw [HX.out]⟩, by simp [intOf]; omega⟩
    · obtain rfl : k = n := by omega
      rw [HG.out]
      go_wp2
      go_ret
      exact ⟨rfl, rfl⟩
end Go.Proofs.YtldhbgefpfmkmaaGreat

/- What a window tells (layer 9): the contracts. -/
namespace Go.Proofs.YtldhbgefpfmkmaaGreat
open Go.ChangeShapes Go.WideShapes Go.ChangeAt Go.RowKit

theorem Samp.vals_len (l : List Samp) : (Samp.vals l).length = l.length := by simp [Samp.vals]
theorem Samp.vals_nn (l : List Samp) : ∀ n ∈ Samp.vals l, 0 ≤ n := by
  intro n hn
  obtain ⟨a, _, rfl⟩ := List.mem_map.1 hn
  omega
theorem Samp.vals_I64 (l : List Samp) (h : ∀ a ∈ l, a.In) : ∀ n ∈ Samp.vals l, I64 n := by
  intro n hn
  obtain ⟨a, ha, rfl⟩ := List.mem_map.1 hn
  have := (h a ha).2
  unfold I64 at *
  omega
theorem Samp.cut_In (lo hi : Int) (l : List Samp) (h : ∀ a ∈ l, a.In) : ∀ a ∈ Samp.cut lo hi l, a.In := fun a ha => h a (List.mem_filter.1 ha).1
theorem Samp.cut_len (lo hi : Int) (l : List Samp) : (Samp.cut lo hi l).length ≤ l.length := List.length_filter_le _ _

theorem statInfo : (Tryz.prog.info? 99).map (·.size) = some 5 := by kernel_rfl

set_option maxHeartbeats 1000000 in
set_option maxRecDepth 100000 in
theorem window_of (p : Option Addr) (cap : Nat) (l : List Samp) (hin : ∀ a ∈ l, a.In) (hb : l.length ≤ 100000) (s : Stat) (es : s = Stat.of (Samp.vals l)) (w : World) (hs : Samps w p l) :
    Calls Tryz.prog 77 #[.slice p l.length cap] w fun e w' => e = .returned (.agg #[.int .i64 s.count, .int .i64 s.sum, .int .i64 s.least, .int .i64 s.most, .int .i64 s.mean]) ∧ Below w.heap.size w w' := by
  by_cases h0 : l.length = 0
  · rw [Stat.of_nil (by rw [Samp.vals_len]; exact h0)] at es
    subst es
    rw [h0]
    clear h0 hs hb hin
    go_enter Tryz.func77, Tryz.ntmps77
    go_wp2
    exact bodyPost_ret (v := .agg #[.int .i64 0, .int .i64 0, .int .i64 0, .int .i64 0, .int .i64 0]) (by simp [results, Tryz.results77, go_sem]) rfl ⟨rfl, below1 _ _⟩
  · have hvl := Samp.vals_len l
    have hv64 := Samp.vals_I64 l hin
    rw [Stat.of_some (by rw [hvl]; exact h0)] at es
    have h1 := fun W : World => fun h : Samps W p l => window_values p cap l hb W h
    obtain ⟨v, ev⟩ : ∃ v, v = Samp.vals l := ⟨_, rfl⟩
    rw [← ev] at hvl hv64 es
    simp only [← ev] at h1
    have h2 := fun (q : Option Addr) (c : Nat) (W : World) (h : Ints .i64 W q v) => sat_sum q c v W h hv64 (by omega)
    have h3 := fun (q : Option Addr) (c : Nat) (W : World) (h : Ints .i64 W q v) => slices_min q c v (by omega) (by omega) W h
    have h4 := fun (q : Option Addr) (c : Nat) (W : World) (h : Ints .i64 W q v) => slices_max q c v (by omega) (by omega) W h
    have h5 := fun (q : Option Addr) (c : Nat) (W : World) (h : Ints .i64 W q v) => wide_mean q c v W h hv64 (by omega)
    simp only [hvl] at h2 h3 h4 h5 es
    obtain ⟨s1, e1⟩ : ∃ x, x = Sat.sum v := ⟨_, rfl⟩
    obtain ⟨s2, e2⟩ : ∃ x, x = lmin v := ⟨_, rfl⟩
    obtain ⟨s3, e3⟩ : ∃ x, x = lmax v := ⟨_, rfl⟩
    obtain ⟨s4, e4⟩ : ∃ x, x = Wide.up (Bits.total v) l.length := ⟨_, rfl⟩
    rw [← e1, ← e2, ← e3, ← e4] at es
    simp only [← e1] at h2
    simp only [← e2] at h3
    simp only [← e3] at h4
    simp only [← e4] at h5
    obtain ⟨n, hn⟩ : ∃ n, n = l.length := ⟨_, rfl⟩
    rw [← hn] at h0 hb es hvl
    simp only [← hn] at h1 h2 h3 h4 h5 ⊢
    subst es
    have H1 := Lib.hid h1
    have H2 := Lib.hid h2
    have H3 := Lib.hid h3
    have H4 := Lib.hid h4
    have H5 := Lib.hid h5
    have HVL := Lib.hid hvl
    have hs1 : Samps (w.alloc (.cells #[.int .i64 0, .int .i64 0, .int .i64 0, .int .i64 0, .int .i64 0] 99)) p l := hs.below (below1 _ _)
    have HS1 := Lib.hid hs1
    have d0 : ((n : Int) == 0) = false := beq_eq_false_iff_ne.2 (by omega)
    clear h1 h2 h3 h4 h5 e1 e2 e3 e4 hn ev hv64 hvl hs hs1
    go_enter Tryz.func77, Tryz.ntmps77
    go_wp2_with fail
    (with_reducible refine (H1.out _ HS1.out).mono ?_)
    rintro e w1 ⟨u, rfl, hO, hB⟩
    rw [← HVL.out] at hO
    obtain ⟨q, c, rfl, _, hq⟩ := ints_of_owns hO
    rw [HVL.out]
    have k1 : w1.heap[w.heap.size]? = some (.cells #[.int .i64 0, .int .i64 0, .int .i64 0, .int .i64 0, .int .i64 0] 99 (0, 0)) := by rw [hB.block _ (by simp)]; exact (by first | (with_reducible exact heap_1_0 _ _) | (with_reducible exact heap_2_0 _ _ _) | (with_reducible exact heap_2_1 _ _ _) | (with_reducible exact heap_3_0 _ _ _ _) | (with_reducible exact heap_3_1 _ _ _ _) | (with_reducible exact heap_3_2 _ _ _ _) | (with_reducible exact heap_4_0 _ _ _ _ _) | (with_reducible exact heap_4_1 _ _ _ _ _) | (with_reducible exact heap_4_2 _ _ _ _ _) | (with_reducible exact heap_4_3 _ _ _ _ _) | (with_reducible exact heap_5_0 _ _ _ _ _ _) | (with_reducible exact heap_5_1 _ _ _ _ _ _) | (with_reducible exact heap_5_2 _ _ _ _ _ _) | (with_reducible exact heap_5_3 _ _ _ _ _ _) | (with_reducible exact heap_5_4 _ _ _ _ _ _) | (with_reducible exact heap_6_0 _ _ _ _ _ _ _) | (with_reducible exact heap_6_1 _ _ _ _ _ _ _) | (with_reducible exact heap_6_2 _ _ _ _ _ _ _) | (with_reducible exact heap_6_3 _ _ _ _ _ _ _) | (with_reducible exact heap_6_4 _ _ _ _ _ _ _) | (with_reducible exact heap_6_5 _ _ _ _ _ _ _) | simp only [heap_alloc_past, heap_alloc_at, World.size_alloc, Nat.add_assoc, Nat.reduceAdd, Nat.lt_add_right_iff_pos, Nat.add_lt_add_iff_left, Nat.reduceLT, Nat.zero_lt_succ, Nat.lt_add_one])
    have HB := Lib.hid ((below1 w (.cells #[.int .i64 0, .int .i64 0, .int .i64 0, .int .i64 0, .int .i64 0] 99)).trans (hB.mono (by simp)))
    have HQ := Lib.hid hq
    have K1 := Lib.hid k1
    clear hO hB hq k1 HS1
    go_wp2_with (first | ((with_reducible refine (H2.out _ _ _ HQ.out).mono ?_); rintro e w2 ⟨rfl, rfl⟩) | ((with_reducible refine (H3.out _ _ _ HQ.out).mono ?_); rintro e w2 ⟨rfl, rfl⟩) | ((with_reducible refine (H4.out _ _ _ HQ.out).mono ?_); rintro e w2 ⟨rfl, rfl⟩))
    (with_reducible refine (H5.out _ _ _ HQ.out).mono ?_)
    rintro e w2 ⟨rfl, hb2⟩
    have k1 := (hb2.block _ (lt_of_heap K1.out)).trans K1.out
    have HB2 := Lib.hid (HB.out.trans (hb2.mono HB.out.size))
    have K2 := Lib.hid k1
    clear hb2 k1 HB K1 HQ
    go_wp2_with ((with_reducible refine wpList_store_rowAs rfl 99 _ _ rfl (w.heap.size) #[.int .i64 n, .int .i64 s1, .int .i64 s2, .int .i64 s3, .int .i64 s4] ?_ ?_ 99 #[.int .i64 0, .int .i64 0, .int .i64 0, .int .i64 0, .int .i64 0] 5 ?_ (by kernel_rfl) rfl rfl (by simp [Value.oneCell']) ?_); exact rfl; exact rfl; exact K2.out)
    exact bodyPost_ret (results_cell_row rfl _ _ w.heap.size 99 #[.int .i64 n, .int .i64 s1, .int .i64 s2, .int .i64 s3, .int .i64 s4] (0, 0) _ rfl (setRow_heap _ _ _ _ _ _ K2.out) Tryz.underlying99 rfl statInfo) rfl ⟨rfl, below_setRow HB2.out (Nat.le_refl _) _⟩
end Go.Proofs.YtldhbgefpfmkmaaGreat

/- Whether two slices are the same. -/
namespace Go.Proofs.YtldhbgefpfmkmaaGreat
open Go.ChangeShapes Go.WideShapes Go.ChangeAt Go.RowKit

/-- The same numbers. -/
theorem same_from {a b : List Int} {k : Nat} (hk : k = a.length) (hl : a.length = b.length) (h : ∀ j, j < k → a[j]?.getD 0 = b[j]?.getD 0) : a = b := by
  apply List.ext_getElem hl
  intro i h1 h2
  have := h i (by omega)
  simpa [h1, h2] using this

end Go.Proofs.YtldhbgefpfmkmaaGreat

/- The walks of layer 2's laws: what they call. -/
namespace Go.Proofs.YtldhbgefpfmkmaaGreat
open Go.ChangeShapes Go.WideShapes Go.ChangeAt Go.RowKit

end Go.Proofs.YtldhbgefpfmkmaaGreat

/- Layer 2: the laws, walked. -/
namespace Go.Proofs.YtldhbgefpfmkmaaGreat
open Go.ChangeShapes Go.WideShapes Go.ChangeAt Go.RowKit

end Go.Proofs.YtldhbgefpfmkmaaGreat

/- Layer 2: WideScales, walked. -/
namespace Go.Proofs.YtldhbgefpfmkmaaGreat
open Go.ChangeShapes Go.WideShapes Go.ChangeAt Go.RowKit

theorem Bits.ceil (n c : Nat) (hc : 0 < c) (V : Nat) (hV : V = n / c + (if n % c = 0 then 0 else 1)) : n ≤ V * c ∧ (V = 0 ∨ (V - 1) * c < n) := by
  have h := Nat.div_add_mod' n c
  have hm := Nat.mod_lt n hc
  by_cases h0 : n % c = 0
  · rw [if_pos h0] at hV
    subst hV
    refine ⟨by rw [Nat.add_zero]; omega, ?_⟩
    by_cases hz : n / c = 0
    · exact .inl (by rw [hz])
    · right
      rw [Nat.add_zero, Nat.sub_mul, Nat.one_mul]
      have : c ≤ n / c * c := Nat.le_mul_of_pos_left c (Nat.pos_of_ne_zero hz)
      omega
  · rw [if_neg h0] at hV
    subst hV
    refine ⟨by rw [Nat.add_mul, Nat.one_mul]; omega, .inr (by rw [Nat.add_sub_cancel]; omega)⟩

theorem Wide.up_is (n c : Nat) (hc : 0 < c) : ∃ q : Nat, Wide.up n c = q ∧ q ≤ 9223372036854775807 ∧ (q = 9223372036854775807 → (q - 1) * c < n) ∧ (q ≠ 9223372036854775807 → Bits.up n c q = true) := by
  obtain ⟨V, hV⟩ : ∃ V, V = n / c + (if n % c = 0 then 0 else 1) := ⟨_, rfl⟩
  obtain ⟨h1, h2⟩ := Bits.ceil n c hc V hV
  have he : Wide.up n c = Bits.small V := by unfold Wide.up; rw [if_neg (by omega), ← hV]
  by_cases hs : V < 9223372036854775808
  · refine ⟨V, by rw [he]; unfold Bits.small; rw [if_pos hs], by omega, fun h => ?_, fun _ => ?_⟩
    · rcases h2 with h2 | h2
      · omega
      · exact h2
    · unfold Bits.up
      exact decide_eq_true ⟨h1, h2⟩
  · refine ⟨9223372036854775807, by rw [he]; unfold Bits.small; rw [if_neg hs]; rfl, by omega, fun _ => ?_, fun h => absurd rfl h⟩
    have h3 : (9223372036854775807 - 1) * c ≤ (V - 1) * c := Nat.mul_le_mul_right _ (by omega)
    rcases h2 with h2 | h2 <;> omega

end Go.Proofs.YtldhbgefpfmkmaaGreat

/- Layer 2: WideMeans, walked. -/
namespace Go.Proofs.YtldhbgefpfmkmaaGreat
open Go.ChangeShapes Go.WideShapes Go.ChangeAt Go.RowKit

theorem Bits.total_ge (l : List Int) (lo : Int) (h0 : 0 ≤ lo) (h : ∀ j, j < l.length → lo ≤ l[j]?.getD 0) : ∀ k, k ≤ l.length → lo * k ≤ Bits.total (l.take k) := by
  intro k
  induction k with
  | zero => intro _; simp
  | succ k ih =>
    intro hk
    have h1 := ih (by omega)
    have h2 := h k (by omega)
    rw [Bits.total_step l k (by omega)]
    have e : lo * ((k + 1 : Nat) : Int) = lo * k + lo := by rw [Int.natCast_add, Int.mul_add]; simp
    omega
theorem Bits.total_hi (l : List Int) (hi : Int) (h0 : 0 ≤ hi) (h : ∀ j, j < l.length → l[j]?.getD 0 ≤ hi) : ∀ k, k ≤ l.length → (Bits.total (l.take k) : Int) ≤ hi * k := by
  intro k
  induction k with
  | zero => intro _; simp [Bits.total]
  | succ k ih =>
    intro hk
    have h1 := ih (by omega)
    have h2 := h k (by omega)
    rw [Bits.total_step l k (by omega)]
    have e : hi * ((k + 1 : Nat) : Int) = hi * k + hi := by rw [Int.natCast_add, Int.mul_add]; simp
    omega

/-- A mean, rounded up. -/
theorem Wide.mean_is (l : List Int) (hl : ∀ n ∈ l, I64 n) (hp : 0 < l.length) : ∃ q : Nat, Wide.up (Bits.total l) l.length = q ∧ q ≤ 9223372036854775807 ∧ Bits.up (Bits.total l) l.length q = true ∧
    (∀ lo hi : Int, 0 ≤ lo → (∀ j, j < l.length → lo ≤ l[j]?.getD 0 ∧ l[j]?.getD 0 ≤ hi) → lo ≤ q ∧ (q : Int) ≤ hi) := by
  obtain ⟨V, hV⟩ : ∃ V, V = Bits.total l / l.length + (if Bits.total l % l.length = 0 then 0 else 1) := ⟨_, rfl⟩
  obtain ⟨h1, h2⟩ := Bits.ceil (Bits.total l) l.length hp V hV
  have hle : ∀ m : Nat, Bits.total l ≤ m * l.length → V ≤ m := fun m hm => by
    rcases h2 with h2 | h2
    · omega
    · have : (V - 1) * l.length < m * l.length := Nat.lt_of_lt_of_le h2 hm
      have := Nat.lt_of_mul_lt_mul_right this
      omega
  have ht := Bits.total_le l hl l.length (Nat.le_refl _)
  rw [List.take_length, Nat.mul_comm] at ht
  have hm := hle 9223372036854775807 ht
  refine ⟨V, ?_, hm, decide_eq_true ⟨h1, h2⟩, fun lo hi h0 hj => ?_⟩
  · unfold Wide.up
    rw [if_neg (by omega), ← hV]
    unfold Bits.small
    rw [if_pos (by omega)]
  · have a := Bits.total_ge l lo h0 (fun j h => (hj j h).1) l.length (Nat.le_refl _)
    have h00 := hj 0 hp
    have b := Bits.total_hi l hi (by omega) (fun j h => (hj j h).2) l.length (Nat.le_refl _)
    rw [List.take_length] at a b
    obtain ⟨L, rfl⟩ : ∃ L : Nat, lo = L := ⟨lo.toNat, by omega⟩
    obtain ⟨H, rfl⟩ : ∃ H : Nat, hi = H := ⟨hi.toNat, by omega⟩
    have a' : L * l.length ≤ Bits.total l := by exact_mod_cast a
    have b' : Bits.total l ≤ H * l.length := by exact_mod_cast b
    have c := hle H b'
    have d : L * l.length ≤ V * l.length := Nat.le_trans a' h1
    have := Nat.le_of_mul_le_mul_right d hp
    omega

end Go.Proofs.YtldhbgefpfmkmaaGreat

/- Layer 9: more contracts, and the reference's. -/
namespace Go.Proofs.YtldhbgefpfmkmaaGreat
open Go.ChangeShapes Go.WideShapes Go.ChangeAt Go.RowKit

theorem same_from' {α : Type} [Inhabited α] {a b : List α} {k : Nat} (hk : k = a.length) (hl : a.length = b.length) (h : ∀ j, j < k → a[j]?.getD default = b[j]?.getD default) : a = b := by
  apply List.ext_getElem hl
  intro i h1 h2
  have := h i (by omega)
  simpa [h1, h2] using this

def Win.from (to width : Int) : Int := Sat.clamp (Sat.clamp (to - width) + 1)

theorem window_from (to width : Int) (ht : I64 to) (hw : I64 width) (w : World) : Calls Tryz.prog 79 #[.int .i64 to, .int .i64 width] w fun e w' => e = .returned (.int .i64 (Win.from to width)) ∧ w = w' := by
  have h1 := sat_sub to width ht hw
  have h2 := sat_add (Sat.clamp (to - width)) 1 (Sat.clamp_I64 _) (by unfold I64; omega)
  have HE : Hid (Win.from to width = Sat.clamp (Sat.clamp (to - width) + 1)) := rfl
  obtain ⟨a, ea⟩ : ∃ a, a = Sat.clamp (to - width) := ⟨_, rfl⟩
  rw [← ea] at h1 h2 HE
  have H1 := Lib.hid h1
  have H2 := Lib.hid h2
  clear h1 h2 ea ht hw
  go_enter Tryz.func79, Tryz.ntmps79
  go_wp2_with (first | ((with_reducible refine (H1.out _).mono ?_); rintro e w1 ⟨rfl, rfl⟩) | ((with_reducible refine (H2.out _).mono ?_); rintro e w1 ⟨rfl, rfl⟩))
  go_ret
  exact ⟨ret_int HE.out.symm, rfl⟩
theorem ref09_from (to width : Int) (ht : I64 to) (hw : I64 width) (w : World) : Calls Tryz.prog 39 #[.int .i64 to, .int .i64 width] w fun e w' => e = .returned (.int .i64 (Win.from to width)) ∧ w = w' := by
  have h1 := ref_sub to width ht hw
  have h2 := ref_add (Sat.clamp (to - width)) 1 (Sat.clamp_I64 _) (by unfold I64; omega)
  have HE : Hid (Win.from to width = Sat.clamp (Sat.clamp (to - width) + 1)) := rfl
  obtain ⟨a, ea⟩ : ∃ a, a = Sat.clamp (to - width) := ⟨_, rfl⟩
  rw [← ea] at h1 h2 HE
  have H1 := Lib.hid h1
  have H2 := Lib.hid h2
  clear h1 h2 ea ht hw
  go_enter Tryz.func39, Tryz.ntmps39
  go_wp2_with (first | ((with_reducible refine (H1.out _).mono ?_); rintro e w1 ⟨rfl, rfl⟩) | ((with_reducible refine (H2.out _).mono ?_); rintro e w1 ⟨rfl, rfl⟩))
  go_ret
  exact ⟨ret_int HE.out.symm, rfl⟩

set_option maxHeartbeats 1000000 in
set_option maxRecDepth 100000 in
theorem window_at (p : Option Addr) (cap : Nat) (l : List Samp) (hin : ∀ a ∈ l, a.In) (hb : l.length ≤ 100000) (to width : Int) (ht : I64 to) (hw : I64 width) (s : Stat) (es : s = Stat.of (Samp.vals (Samp.cut (Win.from to width) to l))) (w : World) (hs : Samps w p l) :
    Calls Tryz.prog 52 #[.slice p l.length cap, .int .i64 to, .int .i64 width] w fun e w' => e = .returned (.agg #[.int .i64 s.count, .int .i64 s.sum, .int .i64 s.least, .int .i64 s.most, .int .i64 s.mean]) ∧ Below w.heap.size w w' := by
  have h1 := window_from to width ht hw
  obtain ⟨fr, ef⟩ : ∃ f, f = Win.from to width := ⟨_, rfl⟩
  rw [← ef] at h1 es
  have h2 := fun W : World => fun h : Samps W p l => window_cut p cap l fr to hb W h
  have hcin := Samp.cut_In fr to l hin
  have hcl := Samp.cut_len fr to l
  obtain ⟨m, em⟩ : ∃ m, m = Samp.cut fr to l := ⟨_, rfl⟩
  rw [← em] at hcin hcl es
  simp only [← em] at h2
  have h3 := fun (q : Option Addr) (c : Nat) (W : World) (h : Samps W q m) => window_of q c m hcin (by omega) s es W h
  have H1 := Lib.hid h1
  have H2 := Lib.hid h2
  have H3 := Lib.hid h3
  have hs1 : Samps (w.alloc (.cells #[.int .i64 0, .int .i64 0, .int .i64 0, .int .i64 0, .int .i64 0] 99)) p l := hs.below (below1 _ _)
  have HS1 := Lib.hid hs1
  obtain ⟨n, hn⟩ : ∃ n, n = l.length := ⟨_, rfl⟩
  rw [← hn] at hb hcl H2 ⊢
  clear h1 h2 h3 ef em es hcin hs hs1 hn ht hw
  go_enter Tryz.func52, Tryz.ntmps52
  go_wp2_with ((with_reducible refine (H1.out _).mono ?_); rintro e w1 ⟨rfl, rfl⟩)
  (with_reducible refine (H2.out _ HS1.out).mono ?_)
  rintro e w1 ⟨u, rfl, hO, hB⟩
  obtain ⟨q, c, rfl, _, hq⟩ := samps_of_owns hO
  have k1 : w1.heap[w.heap.size]? = some (.cells #[.int .i64 0, .int .i64 0, .int .i64 0, .int .i64 0, .int .i64 0] 99 (0, 0)) := by rw [hB.block _ (by simp)]; exact (by first | (with_reducible exact heap_1_0 _ _) | (with_reducible exact heap_2_0 _ _ _) | (with_reducible exact heap_2_1 _ _ _) | (with_reducible exact heap_3_0 _ _ _ _) | (with_reducible exact heap_3_1 _ _ _ _) | (with_reducible exact heap_3_2 _ _ _ _) | (with_reducible exact heap_4_0 _ _ _ _ _) | (with_reducible exact heap_4_1 _ _ _ _ _) | (with_reducible exact heap_4_2 _ _ _ _ _) | (with_reducible exact heap_4_3 _ _ _ _ _) | (with_reducible exact heap_5_0 _ _ _ _ _ _) | (with_reducible exact heap_5_1 _ _ _ _ _ _) | (with_reducible exact heap_5_2 _ _ _ _ _ _) | (with_reducible exact heap_5_3 _ _ _ _ _ _) | (with_reducible exact heap_5_4 _ _ _ _ _ _) | (with_reducible exact heap_6_0 _ _ _ _ _ _ _) | (with_reducible exact heap_6_1 _ _ _ _ _ _ _) | (with_reducible exact heap_6_2 _ _ _ _ _ _ _) | (with_reducible exact heap_6_3 _ _ _ _ _ _ _) | (with_reducible exact heap_6_4 _ _ _ _ _ _ _) | (with_reducible exact heap_6_5 _ _ _ _ _ _ _) | simp only [heap_alloc_past, heap_alloc_at, World.size_alloc, Nat.add_assoc, Nat.reduceAdd, Nat.lt_add_right_iff_pos, Nat.add_lt_add_iff_left, Nat.reduceLT, Nat.zero_lt_succ, Nat.lt_add_one])
  have HB := Lib.hid ((below1 w (.cells #[.int .i64 0, .int .i64 0, .int .i64 0, .int .i64 0, .int .i64 0] 99)).trans (hB.mono (by simp)))
  have HQ := Lib.hid hq
  have K1 := Lib.hid k1
  clear hO hB hq k1 HS1
  go_wp2_with fail
  (with_reducible refine (H3.out _ _ _ HQ.out).mono ?_)
  rintro e w2 ⟨rfl, hb2⟩
  have k1 := (hb2.block _ (lt_of_heap K1.out)).trans K1.out
  have HB2 := Lib.hid (HB.out.trans (hb2.mono HB.out.size))
  have K2 := Lib.hid k1
  clear hb2 k1 HB K1 HQ
  go_wp2_with ((with_reducible refine wpList_store_rowAs rfl 99 _ _ rfl (w.heap.size) #[.int .i64 s.count, .int .i64 s.sum, .int .i64 s.least, .int .i64 s.most, .int .i64 s.mean] ?_ ?_ 99 #[.int .i64 0, .int .i64 0, .int .i64 0, .int .i64 0, .int .i64 0] 5 ?_ (by kernel_rfl) rfl rfl (by simp [Value.oneCell']) ?_); exact rfl; exact rfl; exact K2.out)
  exact bodyPost_ret (results_cell_row rfl _ _ w.heap.size 99 #[.int .i64 s.count, .int .i64 s.sum, .int .i64 s.least, .int .i64 s.most, .int .i64 s.mean] (0, 0) _ rfl (setRow_heap _ _ _ _ _ _ K2.out) Tryz.underlying99 rfl statInfo) rfl ⟨rfl, below_setRow HB2.out (Nat.le_refl _) _⟩
end Go.Proofs.YtldhbgefpfmkmaaGreat

/- Layer 9's reference. -/
namespace Go.Proofs.YtldhbgefpfmkmaaGreat
open Go.ChangeShapes Go.WideShapes Go.ChangeAt Go.RowKit

set_option maxHeartbeats 1000000 in
set_option maxRecDepth 100000 in
theorem ref09_cut (p : Option Addr) (cap : Nat) (l : List Samp) (lo hi : Int) (hb : l.length ≤ 100000) (w : World) (hs : Samps w p l) :
    Calls Tryz.prog 38 #[.slice p l.length cap, .int .i64 lo, .int .i64 hi] w (RetOwns w 2 (Samp.cut lo hi l).length (sampVals (Samp.cut lo hi l))) := by
  have HS := Lib.hid hs
  obtain ⟨n, hn⟩ : ∃ n, n = l.length := ⟨_, rfl⟩
  have HG : Hid (Samp.cut lo hi (l.take n) = Samp.cut lo hi l) := by show _ = _; rw [hn, List.take_length]
  obtain ⟨r, hr⟩ : ∃ r, r = Samp.cut lo hi l := ⟨_, rfl⟩
  rw [← hr] at HG ⊢
  rw [← hn] at hb ⊢
  have HN := Lib.hid hn
  clear hs hn hr
  go_enter Tryz.func38, Tryz.ntmps38
  go_wp2
  go_loopw [7, 8] (fun v i wr => ∃ k : Nat, k ≤ n ∧ i = .int .i64 k ∧ Owns wr w.heap.size 2 v (Samp.cut lo hi (l.take k)).length (sampVals (Samp.cut lo hi (l.take k))) ∧ Below w.heap.size w wr) (fun _ i _ => n - (intOf i).toNat)
  case atStart => exact ⟨0, by omega, rfl, owns_nil _ _ _, Below.refl _ _⟩
  case round =>
    obtain ⟨k, hk, rfl, hO, hB⟩ := hrel
    by_cases hlt : k < n
    · have hkl : k < l.length := by have := HN.out; omega
      obtain ⟨b, off, rfl, hbw, c0, c1⟩ := HS.out.cells k hkl
      have hsn := Samp.cut_next lo hi l k hkl
      have hle := Samp.cut_le lo hi l k
      rw [← hB.cell (p := ⟨b, _, none⟩) hbw] at c0 c1
      obtain ⟨a, ha⟩ : ∃ a, a = l[k]?.getD default := ⟨_, rfl⟩
      rw [← ha] at c0 c1 hsn
      obtain ⟨xs, hxs⟩ : ∃ s, s = Samp.cut lo hi (l.take k) := ⟨_, rfl⟩
      rw [← hxs] at hsn hle hO
      have HO := Lib.hid hO
      have HB := Lib.hid hB
      clear ha hxs hkl hO hB
      by_cases hin : lo ≤ a.tick ∧ a.tick ≤ hi
      · rw [if_pos hin] at hsn
        obtain ⟨i1, i2⟩ := hin
        have HSN := Lib.hid hsn
        have hBW := HB.out
        clear hsn
        go_wp2_with (at_builtin; refine wpList_append_new rfl _ _ 60 rfl _ _ 64 rfl _ 64 (.agg #[.int .i64 0, .int .i64 0]) 2 16 Tryz.underlying60 sampInfo rfl (by decide) _ _ _ rfl (HO.out) (by first | rfl | (rw [World.size_alloc]; rfl)) rfl (by first | (simp [Value.oneCell']; done) | (intro u hu; simp at hu; subst hu; rfl)) (by unfold maxLen; omega) (by omega) (Below.size (by assumption)) ?_; intro u1 x1 ha1 hg1 hc1)
        exact ⟨⟨k + 1, by omega, by go_num, by rw [HSN.out, sampVals_append, List.length_append]; exact ha1, HB.out.trans hc1⟩, by simp [intOf]; omega⟩
      · rw [if_neg hin, List.append_nil] at hsn
        have HSN := Lib.hid hsn
        clear hsn
        by_cases i1 : lo ≤ a.tick
        · have i2 : hi < a.tick := by omega
          clear hin
          go_wp2
          exact ⟨⟨k + 1, by omega, by go_num, by rw [HSN.out]; exact HO.out, HB.out⟩, by simp [intOf]; omega⟩
        · have i2 : a.tick < lo := by omega
          have d1 : decide (lo ≤ a.tick) = false := decide_eq_false i1
          clear hin
          go_wp2
          exact ⟨⟨k + 1, by omega, by go_num, by rw [HSN.out]; exact HO.out, HB.out⟩, by simp [intOf]; omega⟩
    · obtain rfl : k = n := by omega
      rw [HG.out] at hO
      go_wp2
      go_ret
      exact ⟨_, rfl, hO, hB⟩

set_option maxHeartbeats 1000000 in
set_option maxRecDepth 100000 in
theorem ref09_values (p : Option Addr) (cap : Nat) (l : List Samp) (hb : l.length ≤ 100000) (w : World) (hs : Samps w p l) :
    Calls Tryz.prog 66 #[.slice p l.length cap] w (RetOwns w 1 l.length (intVals (Samp.vals l))) := by
  have HS := Lib.hid hs
  obtain ⟨n, hn⟩ : ∃ n, n = l.length := ⟨_, rfl⟩
  have HG : Hid (Samp.vals (l.take n) = Samp.vals l) := by show _ = _; rw [hn, List.take_length]
  obtain ⟨r, hr⟩ : ∃ r, r = Samp.vals l := ⟨_, rfl⟩
  rw [← hr] at HG ⊢
  rw [← hn] at hb ⊢
  have HN := Lib.hid hn
  clear hs hn hr
  go_enter Tryz.func66, Tryz.ntmps66
  go_wp2
  go_loopw [3, 4] (fun v i wr => ∃ k : Nat, k ≤ n ∧ i = .int .i64 k ∧ Owns wr w.heap.size 1 v k (intVals (Samp.vals (l.take k))) ∧ Below w.heap.size w wr) (fun _ i _ => n - (intOf i).toNat)
  case atStart => exact ⟨0, by omega, rfl, owns_nil _ _ _, Below.refl _ _⟩
  case round =>
    obtain ⟨k, hk, rfl, hO, hB⟩ := hrel
    by_cases hlt : k < n
    · have hkl : k < l.length := by have := HN.out; omega
      obtain ⟨b, off, rfl, hbw, c0, c1⟩ := HS.out.cells k hkl
      have hsn := Samp.vals_next l k hkl
      rw [← hB.cell (p := ⟨b, _, none⟩) hbw] at c0 c1
      obtain ⟨a, ha⟩ : ∃ a, a = l[k]?.getD default := ⟨_, rfl⟩
      rw [← ha] at c0 c1 hsn
      have HO := Lib.hid hO
      have HB := Lib.hid hB
      have hBW := HB.out
      clear ha hkl hO hB
      by_cases h0 : 0 ≤ a.val
      · rw [show max a.val 0 = a.val by omega] at hsn
        have HSN := Lib.hid hsn
        clear hsn
        go_wp2_with (at_builtin; refine wpList_append_new rfl _ _ 34 rfl _ _ 2 rfl _ 2 (.int .i64 0) 1 8 Tryz.underlying34 i64Info rfl (by decide) _ _ _ rfl (HO.out) (by first | rfl | (rw [World.size_alloc]; rfl)) rfl (by first | (simp [Value.oneCell']; done) | (intro u hu; simp at hu; subst hu; rfl)) (by unfold maxLen; omega) (by omega) (Below.size (by assumption)) ?_; intro u1 x1 ha1 hg1 hc1)
        exact ⟨⟨k + 1, by omega, by go_num, by rw [HSN.out, intVals_append]; exact ha1, HB.out.trans hc1⟩, by simp [intOf]; omega⟩
      · rw [show max a.val 0 = 0 by omega] at hsn
        have HSN := Lib.hid hsn
        clear hsn
        go_wp2_with (at_builtin; refine wpList_append_new rfl _ _ 34 rfl _ _ 2 rfl _ 2 (.int .i64 0) 1 8 Tryz.underlying34 i64Info rfl (by decide) _ _ _ rfl (HO.out) (by first | rfl | (rw [World.size_alloc]; rfl)) rfl (by first | (simp [Value.oneCell']; done) | (intro u hu; simp at hu; subst hu; rfl)) (by unfold maxLen; omega) (by omega) (Below.size (by assumption)) ?_; intro u1 x1 ha1 hg1 hc1)
        exact ⟨⟨k + 1, by omega, by go_num, by rw [HSN.out, intVals_append]; exact ha1, HB.out.trans hc1⟩, by simp [intOf]; omega⟩
    · obtain rfl : k = n := by omega
      rw [HG.out] at hO
      go_wp2
      go_ret
      exact ⟨_, rfl, hO, hB⟩

end Go.Proofs.YtldhbgefpfmkmaaGreat

/- Layer 9: what is told is right, by the reference. -/
namespace Go.Proofs.YtldhbgefpfmkmaaGreat
open Go.ChangeShapes Go.WideShapes Go.ChangeAt Go.RowKit

end Go.Proofs.YtldhbgefpfmkmaaGreat
