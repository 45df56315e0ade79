/- What a window tells (layer 9): sums, least, most, mean. -/
import Derived.Test.YtcinfpgpldmkaaaSamp
namespace Go.Proofs.Ytcinfpgpldmkaaa
open Go.ChangeShapes Go.WideShapes Go.ChangeAt Go.RowKit

theorem foldl_next' {α β : Type} (f : β → α → β) (b : β) (d : α) (l : List α) (k : Nat) (h : k < l.length) : (l.take (k + 1)).foldl f b = f ((l.take k).foldl f b) (l[k]?.getD d) := by
  rw [List.take_succ_eq_append_getElem h, List.foldl_append, List.getElem?_eq_getElem h]
  rfl

def lmin (v : List Int) : Int := v.foldl min (v[0]?.getD 0)
def lmax (v : List Int) : Int := v.foldl max (v[0]?.getD 0)

theorem lmin_fold : ∀ (v : List Int) (m : Int), (v.foldl min m = m ∨ v.foldl min m ∈ v) ∧ v.foldl min m ≤ m ∧ ∀ x ∈ v, v.foldl min m ≤ x
  | [], m => by simp
  | a :: v, m => by
    obtain ⟨h1, h2, h3⟩ := lmin_fold v (min m a)
    simp only [List.foldl_cons]
    refine ⟨?_, by omega, ?_⟩
    · rcases h1 with h1 | h1
      · rcases Int.le_total m a with h | h
        · left; rw [h1]; omega
        · right; rw [h1, show min m a = a by omega]; simp
      · right; simp [h1]
    · intro x hx
      rcases List.mem_cons.1 hx with rfl | hx
      · omega
      · exact h3 x hx
theorem lmax_fold : ∀ (v : List Int) (m : Int), (v.foldl max m = m ∨ v.foldl max m ∈ v) ∧ m ≤ v.foldl max m ∧ ∀ x ∈ v, x ≤ v.foldl max m
  | [], m => by simp
  | a :: v, m => by
    obtain ⟨h1, h2, h3⟩ := lmax_fold v (max m a)
    simp only [List.foldl_cons]
    refine ⟨?_, by omega, ?_⟩
    · rcases h1 with h1 | h1
      · rcases Int.le_total a m with h | h
        · left; rw [h1]; omega
        · right; rw [h1, show max m a = a by omega]; simp
      · right; simp [h1]
    · intro x hx
      rcases List.mem_cons.1 hx with rfl | hx
      · omega
      · exact h3 x hx
theorem head_mem {v : List Int} (h : v ≠ []) : v[0]?.getD 0 ∈ v := by
  cases v with
  | nil => exact absurd rfl h
  | cons a v => simp
theorem lmin_spec {v : List Int} (h : v ≠ []) : lmin v ∈ v ∧ ∀ x ∈ v, lmin v ≤ x := by
  obtain ⟨h1, _, h3⟩ := lmin_fold v (v[0]?.getD 0)
  refine ⟨?_, h3⟩
  rcases h1 with h1 | h1
  · unfold lmin; rw [h1]; exact head_mem h
  · exact h1
theorem lmax_spec {v : List Int} (h : v ≠ []) : lmax v ∈ v ∧ ∀ x ∈ v, x ≤ lmax v := by
  obtain ⟨h1, _, h3⟩ := lmax_fold v (v[0]?.getD 0)
  refine ⟨?_, h3⟩
  rcases h1 with h1 | h1
  · unfold lmax; rw [h1]; exact head_mem h
  · exact h1
theorem lmin_of {v : List Int} {m : Int} (h : m ∈ v) (h2 : ∀ x ∈ v, m ≤ x) : lmin v = m := by
  have hne : v ≠ [] := fun e => by rw [e] at h; cases h
  obtain ⟨a, b⟩ := lmin_spec hne
  have := b m h
  have := h2 _ a
  omega
theorem lmax_of {v : List Int} {m : Int} (h : m ∈ v) (h2 : ∀ x ∈ v, x ≤ m) : lmax v = m := by
  have hne : v ≠ [] := fun e => by rw [e] at h; cases h
  obtain ⟨a, b⟩ := lmax_spec hne
  have := b m h
  have := h2 _ a
  omega
theorem lmin_append {a b : List Int} (ha : a ≠ []) (hb : b ≠ []) : lmin (a ++ b) = min (lmin a) (lmin b) := by
  obtain ⟨a1, a2⟩ := lmin_spec ha
  obtain ⟨b1, b2⟩ := lmin_spec hb
  apply lmin_of
  · rcases Int.le_total (lmin a) (lmin b) with h | h
    · rw [show min (lmin a) (lmin b) = lmin a by omega]; exact List.mem_append_left _ a1
    · rw [show min (lmin a) (lmin b) = lmin b by omega]; exact List.mem_append_right _ b1
  · intro x hx
    rcases List.mem_append.1 hx with h | h
    · have := a2 x h; omega
    · have := b2 x h; omega
theorem lmax_append {a b : List Int} (ha : a ≠ []) (hb : b ≠ []) : lmax (a ++ b) = max (lmax a) (lmax b) := by
  obtain ⟨a1, a2⟩ := lmax_spec ha
  obtain ⟨b1, b2⟩ := lmax_spec hb
  apply lmax_of
  · rcases Int.le_total (lmax a) (lmax b) with h | h
    · rw [show max (lmax a) (lmax b) = lmax b by omega]; exact List.mem_append_right _ b1
    · rw [show max (lmax a) (lmax b) = lmax a by omega]; exact List.mem_append_left _ a1
  · intro x hx
    rcases List.mem_append.1 hx with h | h
    · have := a2 x h; omega
    · have := b2 x h; omega

theorem total_fold : ∀ (l : List Int) (s : Nat), l.foldl (fun s n => s + n.toNat) s = s + Bits.total l
  | [], s => by simp [Bits.total]
  | a :: l, s => by
    have h1 := total_fold l (s + a.toNat)
    have h2 := total_fold l (0 + a.toNat)
    simp only [List.foldl_cons, Bits.total] at *
    omega
theorem total_append (a b : List Int) : Bits.total (a ++ b) = Bits.total a + Bits.total b := by
  unfold Bits.total
  rw [List.foldl_append, total_fold b]
  rfl
theorem sum_fold : ∀ (l : List Int) (T : Nat), (∀ n ∈ l, 0 ≤ n) → l.foldl (fun s n => Sat.clamp (s + n)) (Sat.clamp T) = Sat.clamp ((T + Bits.total l : Nat) : Int)
  | [], T, _ => by simp [Bits.total]
  | a :: l, T, h => by
    have ha := h a (by simp)
    simp only [List.foldl_cons]
    have e : Sat.clamp (Sat.clamp (T : Int) + a) = Sat.clamp ((T + a.toNat : Nat) : Int) := by
      have h3 : ((T + a.toNat : Nat) : Int) = T + a := by omega
      by_cases hT : (T : Int) ≤ 9223372036854775807
      · rw [Sat.clamp_of (x := (T : Int)) ⟨by omega, hT⟩, h3]
      · have h1 : Sat.clamp (T : Int) = 9223372036854775807 := by unfold Sat.clamp; rw [if_neg (by omega), if_pos (by omega)]
        have h2 : ∀ y : Int, 9223372036854775807 ≤ y → Sat.clamp y = 9223372036854775807 := fun y hy => by
          unfold Sat.clamp
          rw [if_neg (by omega)]
          split <;> omega
        rw [h1, h2 _ (by omega), h2 _ (by omega)]
    rw [e, sum_fold l _ (fun n hn => h n (by simp [hn]))]
    congr 2
    have h2 := total_fold l (0 + a.toNat)
    simp only [Bits.total, List.foldl_cons] at *
    omega
/-- A sum of numbers that are not below zero. -/
theorem sum_total (l : List Int) (h : ∀ n ∈ l, 0 ≤ n) : Sat.sum l = Sat.clamp (Bits.total l : Nat) := by
  have := sum_fold l 0 h
  rw [Nat.zero_add] at this
  exact this

/-- What is told of values. -/
structure Stat where
  count : Int
  sum : Int
  least : Int
  most : Int
  mean : Int
deriving DecidableEq
def Stat.of (v : List Int) : Stat := if v.length = 0 then ⟨0, 0, 0, 0, 0⟩ else ⟨v.length, Sat.sum v, lmin v, lmax v, Wide.up (Bits.total v) v.length⟩
theorem Stat.of_nil {v : List Int} (h : v.length = 0) : Stat.of v = ⟨0, 0, 0, 0, 0⟩ := by unfold Stat.of; rw [if_pos h]
theorem Stat.of_some {v : List Int} (h : ¬ v.length = 0) : Stat.of v = ⟨v.length, Sat.sum v, lmin v, lmax v, Wide.up (Bits.total v) v.length⟩ := by unfold Stat.of; rw [if_neg h]
/-- In whatever order. -/
theorem Stat.swap (a b : List Int) (ha : ∀ n ∈ a, 0 ≤ n) (hb : ∀ n ∈ b, 0 ≤ n) : Stat.of (a ++ b) = Stat.of (b ++ a) := by
  by_cases h0 : a = []
  · subst h0; simp
  by_cases h1 : b = []
  · subst h1; simp
  have la : 0 < a.length := List.length_pos_iff.2 h0
  have lb : 0 < b.length := List.length_pos_iff.2 h1
  rw [Stat.of_some (by rw [List.length_append]; omega), Stat.of_some (by rw [List.length_append]; omega)]
  have hs : ∀ x y : List Int, (∀ n ∈ x, 0 ≤ n) → (∀ n ∈ y, 0 ≤ n) → Sat.sum (x ++ y) = Sat.clamp ((Bits.total x + Bits.total y : Nat) : Int) := fun x y hx hy => by
    rw [sum_total _ (fun n hn => by rcases List.mem_append.1 hn with h | h; exact hx n h; exact hy n h), total_append]
  rw [hs a b ha hb, hs b a hb ha, lmin_append h0 h1, lmin_append h1 h0, lmax_append h0 h1, lmax_append h1 h0, total_append, total_append, List.length_append, List.length_append, Nat.add_comm (Bits.total b), Nat.add_comm b.length, Int.min_comm, Int.max_comm]

set_option maxHeartbeats 1000000 in
set_option maxRecDepth 100000 in
theorem slices_min (p : Option Addr) (cap : Nat) (l : List Int) (hp : 0 < l.length) (hb : l.length ≤ 100000) (w : World) (hs : Ints .i64 w p l) :
    Calls Try.prog 119 #[.slice p l.length cap] w fun e w' => e = .returned (.int .i64 (lmin l)) ∧ w = w' := by
  have HS := Lib.hid hs
  have HG : Hid ((l.take l.length).foldl min (l[0]?.getD 0) = lmin l) := by show _ = _; rw [List.take_length]; rfl
  obtain ⟨r, hr⟩ : ∃ r, r = lmin l := ⟨_, rfl⟩
  rw [← hr] at HG ⊢
  obtain ⟨n, hn⟩ : ∃ n, n = l.length := ⟨_, rfl⟩
  rw [← hn] at HG hb hp ⊢
  have HN := Lib.hid hn
  obtain ⟨b, off, rfl, hbw, hc⟩ := HS.out.pos (by omega)
  have c0 := hc 0 (by omega)
  rw [Nat.add_zero] at c0
  have HC := Lib.hid hc
  have H1 : Hid ((l.take 1).foldl min (l[0]?.getD 0) = l[0]?.getD 0) := by
    show _ = _
    cases l with
    | nil => simp at hn; omega
    | cons a l => simp
  obtain ⟨a0, e0⟩ : ∃ a, a = l[0]?.getD 0 := ⟨_, rfl⟩
  rw [← e0] at c0 H1 HG
  clear hs hr hn hc e0
  go_enter Try.func119, Try.ntmps119
  go_wp2
  go_loop [3, 4] (fun m i => ∃ k : Nat, 1 ≤ k ∧ k ≤ n ∧ i = .int .i64 k ∧ m = .int .i64 ((l.take k).foldl min a0)) (fun _ i => n - (intOf i).toNat)
  case atStart => exact ⟨1, by omega, by omega, rfl, by rw [H1.out]⟩
  case round =>
    obtain ⟨k, hk1, hk, rfl, rfl⟩ := hrel
    by_cases hlt : k < n
    · have g1 := HC.out k (by have := HN.out; omega)
      have hnx := foldl_next' min a0 0 l k (by have := HN.out; omega)
      obtain ⟨x, ex⟩ : ∃ x, x = l[k]?.getD 0 := ⟨_, rfl⟩
      rw [← ex] at g1 hnx
      obtain ⟨m, em⟩ : ∃ m, m = (l.take k).foldl min a0 := ⟨_, rfl⟩
      rw [← em] at hnx ⊢
      clear ex em
      by_cases hxm : m ≤ x
      · rw [show min m x = m by omega] at hnx
        have HX := Lib.hid hnx
        clear hnx
        go_wp2
        exact ⟨⟨k + 1, by omega, by omega, by go_num, by rw [HX.out]⟩, by simp [intOf]; omega⟩
      · have hxm2 : x < m := by omega
        rw [show min m x = x by omega] at hnx
        clear hxm
        have HX := Lib.hid hnx
        clear hnx
        go_wp2
        exact ⟨⟨k + 1, by omega, by omega, by go_num, by rw [HX.out]⟩, by simp [intOf]; omega⟩
    · obtain rfl : k = n := by omega
      rw [HG.out]
      go_wp2
      go_ret
      exact ⟨rfl, rfl⟩
set_option maxHeartbeats 1000000 in
set_option maxRecDepth 100000 in
theorem slices_max (p : Option Addr) (cap : Nat) (l : List Int) (hp : 0 < l.length) (hb : l.length ≤ 100000) (w : World) (hs : Ints .i64 w p l) :
    Calls Try.prog 120 #[.slice p l.length cap] w fun e w' => e = .returned (.int .i64 (lmax l)) ∧ w = w' := by
  have HS := Lib.hid hs
  have HG : Hid ((l.take l.length).foldl max (l[0]?.getD 0) = lmax l) := by show _ = _; rw [List.take_length]; rfl
  obtain ⟨r, hr⟩ : ∃ r, r = lmax l := ⟨_, rfl⟩
  rw [← hr] at HG ⊢
  obtain ⟨n, hn⟩ : ∃ n, n = l.length := ⟨_, rfl⟩
  rw [← hn] at HG hb hp ⊢
  have HN := Lib.hid hn
  obtain ⟨b, off, rfl, hbw, hc⟩ := HS.out.pos (by omega)
  have c0 := hc 0 (by omega)
  rw [Nat.add_zero] at c0
  have HC := Lib.hid hc
  have H1 : Hid ((l.take 1).foldl max (l[0]?.getD 0) = l[0]?.getD 0) := by
    show _ = _
    cases l with
    | nil => simp at hn; omega
    | cons a l => simp
  obtain ⟨a0, e0⟩ : ∃ a, a = l[0]?.getD 0 := ⟨_, rfl⟩
  rw [← e0] at c0 H1 HG
  clear hs hr hn hc e0
  go_enter Try.func120, Try.ntmps120
  go_wp2
  go_loop [3, 4] (fun m i => ∃ k : Nat, 1 ≤ k ∧ k ≤ n ∧ i = .int .i64 k ∧ m = .int .i64 ((l.take k).foldl max a0)) (fun _ i => n - (intOf i).toNat)
  case atStart => exact ⟨1, by omega, by omega, rfl, by rw [H1.out]⟩
  case round =>
    obtain ⟨k, hk1, hk, rfl, rfl⟩ := hrel
    by_cases hlt : k < n
    · have g1 := HC.out k (by have := HN.out; omega)
      have hnx := foldl_next' max a0 0 l k (by have := HN.out; omega)
      obtain ⟨x, ex⟩ : ∃ x, x = l[k]?.getD 0 := ⟨_, rfl⟩
      rw [← ex] at g1 hnx
      obtain ⟨m, em⟩ : ∃ m, m = (l.take k).foldl max a0 := ⟨_, rfl⟩
      rw [← em] at hnx ⊢
      clear ex em
      by_cases hxm : x ≤ m
      · rw [show max m x = m by omega] at hnx
        have HX := Lib.hid hnx
        clear hnx
        go_wp2
        exact ⟨⟨k + 1, by omega, by omega, by go_num, by rw [HX.out]⟩, by simp [intOf]; omega⟩
      · have hxm2 : m < x := by omega
        rw [show max m x = x by omega] at hnx
        clear hxm
        have HX := Lib.hid hnx
        clear hnx
        go_wp2
        exact ⟨⟨k + 1, by omega, by omega, by go_num, by rw [HX.out]⟩, by simp [intOf]; omega⟩
    · obtain rfl : k = n := by omega
      rw [HG.out]
      go_wp2
      go_ret
      exact ⟨rfl, rfl⟩
end Go.Proofs.Ytcinfpgpldmkaaa
