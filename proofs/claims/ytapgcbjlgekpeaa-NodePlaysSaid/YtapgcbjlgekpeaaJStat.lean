/- General lemmas of several texts, one after another. -/
import Derived.Test.YtapgcbjlgekpeaaJSamp
import Derived.Test.YtapgcbjlgekpeaaJBase
import Derived.Test.YtapgcbjlgekpeaaJWide3
import Derived.Test.YtapgcbjlgekpeaaJRef02c
/- What a window tells (layer 9): sums, least, most, mean. -/
namespace Go.Proofs.Ytapgcbjlgekpeaa
open Go.ChangeShapes Go.WideShapes Go.ChangeAt Go.RowKit

theorem foldl_next' {α β : Type} (f : β → α → β) (b : β) (d : α) (l : List α) (k : Nat) (h : k < l.length) : (l.take (k + 1)).foldl f b = f ((l.take k).foldl f b) (l[k]?.getD d) := by
  rw [List.take_succ_eq_append_getElem h, List.foldl_append, List.getElem?_eq_getElem h]
  rfl

def lmin (v : List Int) : Int := v.foldl min (v[0]?.getD 0)
def lmax (v : List Int) : Int := v.foldl max (v[0]?.getD 0)

theorem lmin_fold : ∀ (v : List Int) (m : Int), (v.foldl min m = m ∨ v.foldl min m ∈ v) ∧ v.foldl min m ≤ m ∧ ∀ x ∈ v, v.foldl min m ≤ x
  | [], m => by simp
  | a :: v, m => by
    obtain ⟨h1, h2, h3⟩ := lmin_fold v (min m a)
    simp only [List.foldl_cons]
    refine ⟨?_, by omega, ?_⟩
    · rcases h1 with h1 | h1
      · rcases Int.le_total m a with h | h
        · left; rw [h1]; omega
        · right; rw [h1, show min m a = a by omega]; simp
      · right; simp [h1]
    · intro x hx
      rcases List.mem_cons.1 hx with rfl | hx
      · omega
      · exact h3 x hx
theorem lmax_fold : ∀ (v : List Int) (m : Int), (v.foldl max m = m ∨ v.foldl max m ∈ v) ∧ m ≤ v.foldl max m ∧ ∀ x ∈ v, x ≤ v.foldl max m
  | [], m => by simp
  | a :: v, m => by
    obtain ⟨h1, h2, h3⟩ := lmax_fold v (max m a)
    simp only [List.foldl_cons]
    refine ⟨?_, by omega, ?_⟩
    · rcases h1 with h1 | h1
      · rcases Int.le_total a m with h | h
        · left; rw [h1]; omega
        · right; rw [h1, show max m a = a by omega]; simp
      · right; simp [h1]
    · intro x hx
      rcases List.mem_cons.1 hx with rfl | hx
      · omega
      · exact h3 x hx
theorem head_mem {v : List Int} (h : v ≠ []) : v[0]?.getD 0 ∈ v := by
  cases v with
  | nil => exact absurd rfl h
  | cons a v => simp
theorem lmin_spec {v : List Int} (h : v ≠ []) : lmin v ∈ v ∧ ∀ x ∈ v, lmin v ≤ x := by
  obtain ⟨h1, _, h3⟩ := lmin_fold v (v[0]?.getD 0)
  refine ⟨?_, h3⟩
  rcases h1 with h1 | h1
  · unfold lmin; rw [h1]; exact head_mem h
  · exact h1
theorem lmax_spec {v : List Int} (h : v ≠ []) : lmax v ∈ v ∧ ∀ x ∈ v, x ≤ lmax v := by
  obtain ⟨h1, _, h3⟩ := lmax_fold v (v[0]?.getD 0)
  refine ⟨?_, h3⟩
  rcases h1 with h1 | h1
  · unfold lmax; rw [h1]; exact head_mem h
  · exact h1
theorem lmin_of {v : List Int} {m : Int} (h : m ∈ v) (h2 : ∀ x ∈ v, m ≤ x) : lmin v = m := by
  have hne : v ≠ [] := fun e => by rw [e] at h; cases h
  obtain ⟨a, b⟩ := lmin_spec hne
  have := b m h
  have := h2 _ a
  omega
theorem lmax_of {v : List Int} {m : Int} (h : m ∈ v) (h2 : ∀ x ∈ v, x ≤ m) : lmax v = m := by
  have hne : v ≠ [] := fun e => by rw [e] at h; cases h
  obtain ⟨a, b⟩ := lmax_spec hne
  have := b m h
  have := h2 _ a
  omega
theorem lmin_append {a b : List Int} (ha : a ≠ []) (hb : b ≠ []) : lmin (a ++ b) = min (lmin a) (lmin b) := by
  obtain ⟨a1, a2⟩ := lmin_spec ha
  obtain ⟨b1, b2⟩ := lmin_spec hb
  apply lmin_of
  · rcases Int.le_total (lmin a) (lmin b) with h | h
    · rw [show min (lmin a) (lmin b) = lmin a by omega]; exact List.mem_append_left _ a1
    · rw [show min (lmin a) (lmin b) = lmin b by omega]; exact List.mem_append_right _ b1
  · intro x hx
    rcases List.mem_append.1 hx with h | h
    · have := a2 x h; omega
    · have := b2 x h; omega
theorem lmax_append {a b : List Int} (ha : a ≠ []) (hb : b ≠ []) : lmax (a ++ b) = max (lmax a) (lmax b) := by
  obtain ⟨a1, a2⟩ := lmax_spec ha
  obtain ⟨b1, b2⟩ := lmax_spec hb
  apply lmax_of
  · rcases Int.le_total (lmax a) (lmax b) with h | h
    · rw [show max (lmax a) (lmax b) = lmax b by omega]; exact List.mem_append_right _ b1
    · rw [show max (lmax a) (lmax b) = lmax a by omega]; exact List.mem_append_left _ a1
  · intro x hx
    rcases List.mem_append.1 hx with h | h
    · have := a2 x h; omega
    · have := b2 x h; omega

theorem total_fold : ∀ (l : List Int) (s : Nat), l.foldl (fun s n => s + n.toNat) s = s + Bits.total l
  | [], s => by simp [Bits.total]
  | a :: l, s => by
    have h1 := total_fold l (s + a.toNat)
    have h2 := total_fold l (0 + a.toNat)
    simp only [List.foldl_cons, Bits.total] at *
    omega
theorem total_append (a b : List Int) : Bits.total (a ++ b) = Bits.total a + Bits.total b := by
  unfold Bits.total
  rw [List.foldl_append, total_fold b]
  rfl
theorem sum_fold : ∀ (l : List Int) (T : Nat), (∀ n ∈ l, 0 ≤ n) → l.foldl (fun s n => Sat.clamp (s + n)) (Sat.clamp T) = Sat.clamp ((T + Bits.total l : Nat) : Int)
  | [], T, _ => by simp [Bits.total]
  | a :: l, T, h => by
    have ha := h a (by simp)
    simp only [List.foldl_cons]
    have e : Sat.clamp (Sat.clamp (T : Int) + a) = Sat.clamp ((T + a.toNat : Nat) : Int) := by
      have h3 : ((T + a.toNat : Nat) : Int) = T + a := by omega
      by_cases hT : (T : Int) ≤ 9223372036854775807
      · rw [Sat.clamp_of (x := (T : Int)) ⟨by omega, hT⟩, h3]
      · have h1 : Sat.clamp (T : Int) = 9223372036854775807 := by unfold Sat.clamp; rw [if_neg (by omega), if_pos (by omega)]
        have h2 : ∀ y : Int, 9223372036854775807 ≤ y → Sat.clamp y = 9223372036854775807 := fun y hy => by
          unfold Sat.clamp
          rw [if_neg (by omega)]
          split <;> omega
        rw [h1, h2 _ (by omega), h2 _ (by omega)]
    rw [e, sum_fold l _ (fun n hn => h n (by simp [hn]))]
    congr 2
    have h2 := total_fold l (0 + a.toNat)
    simp only [Bits.total, List.foldl_cons] at *
    omega
/-- A sum of numbers that are not below zero. -/
theorem sum_total (l : List Int) (h : ∀ n ∈ l, 0 ≤ n) : Sat.sum l = Sat.clamp (Bits.total l : Nat) := by
  have := sum_fold l 0 h
  rw [Nat.zero_add] at this
  exact this

/-- What is told of values. -/
structure Stat where
  count : Int
  sum : Int
  least : Int
  most : Int
  mean : Int
deriving DecidableEq
def Stat.of (v : List Int) : Stat := if v.length = 0 then ⟨0, 0, 0, 0, 0⟩ else ⟨v.length, Sat.sum v, lmin v, lmax v, Wide.up (Bits.total v) v.length⟩
theorem Stat.of_nil {v : List Int} (h : v.length = 0) : Stat.of v = ⟨0, 0, 0, 0, 0⟩ := by unfold Stat.of; rw [if_pos h]
theorem Stat.of_some {v : List Int} (h : ¬ v.length = 0) : Stat.of v = ⟨v.length, Sat.sum v, lmin v, lmax v, Wide.up (Bits.total v) v.length⟩ := by unfold Stat.of; rw [if_neg h]
/-- In whatever order. -/
theorem Stat.swap (a b : List Int) (ha : ∀ n ∈ a, 0 ≤ n) (hb : ∀ n ∈ b, 0 ≤ n) : Stat.of (a ++ b) = Stat.of (b ++ a) := by
  by_cases h0 : a = []
  · subst h0; simp
  by_cases h1 : b = []
  · subst h1; simp
  have la : 0 < a.length := List.length_pos_iff.2 h0
  have lb : 0 < b.length := List.length_pos_iff.2 h1
  rw [Stat.of_some (by rw [List.length_append]; omega), Stat.of_some (by rw [List.length_append]; omega)]
  have hs : ∀ x y : List Int, (∀ n ∈ x, 0 ≤ n) → (∀ n ∈ y, 0 ≤ n) → Sat.sum (x ++ y) = Sat.clamp ((Bits.total x + Bits.total y : Nat) : Int) := fun x y hx hy => by
    rw [sum_total _ (fun n hn => by rcases List.mem_append.1 hn with h | h; exact hx n h; exact hy n h), total_append]
  rw [hs a b ha hb, hs b a hb ha, lmin_append h0 h1, lmin_append h1 h0, lmax_append h0 h1, lmax_append h1 h0, total_append, total_append, List.length_append, List.length_append, Nat.add_comm (Bits.total b), Nat.add_comm b.length, Int.min_comm, Int.max_comm]

end Go.Proofs.Ytapgcbjlgekpeaa

/- What a window tells (layer 9): the contracts. -/
namespace Go.Proofs.Ytapgcbjlgekpeaa
open Go.ChangeShapes Go.WideShapes Go.ChangeAt Go.RowKit

theorem Samp.vals_len (l : List Samp) : (Samp.vals l).length = l.length := by simp [Samp.vals]
theorem Samp.vals_nn (l : List Samp) : ∀ n ∈ Samp.vals l, 0 ≤ n := by
  intro n hn
  obtain ⟨a, _, rfl⟩ := List.mem_map.1 hn
  omega
theorem Samp.vals_I64 (l : List Samp) (h : ∀ a ∈ l, a.In) : ∀ n ∈ Samp.vals l, I64 n := by
  intro n hn
  obtain ⟨a, ha, rfl⟩ := List.mem_map.1 hn
  have := (h a ha).2
  unfold I64 at *
  omega
theorem Samp.cut_In (lo hi : Int) (l : List Samp) (h : ∀ a ∈ l, a.In) : ∀ a ∈ Samp.cut lo hi l, a.In := fun a ha => h a (List.mem_filter.1 ha).1
theorem Samp.cut_len (lo hi : Int) (l : List Samp) : (Samp.cut lo hi l).length ≤ l.length := List.length_filter_le _ _

end Go.Proofs.Ytapgcbjlgekpeaa

/- Whether two slices are the same. -/
namespace Go.Proofs.Ytapgcbjlgekpeaa
open Go.ChangeShapes Go.WideShapes Go.ChangeAt Go.RowKit

/-- The same numbers. -/
theorem same_from {a b : List Int} {k : Nat} (hk : k = a.length) (hl : a.length = b.length) (h : ∀ j, j < k → a[j]?.getD 0 = b[j]?.getD 0) : a = b := by
  apply List.ext_getElem hl
  intro i h1 h2
  have := h i (by omega)
  simpa [h1, h2] using this

end Go.Proofs.Ytapgcbjlgekpeaa

/- The walks of layer 2's laws: what they call. -/
namespace Go.Proofs.Ytapgcbjlgekpeaa
open Go.ChangeShapes Go.WideShapes Go.ChangeAt Go.RowKit

end Go.Proofs.Ytapgcbjlgekpeaa

/- Layer 2: the laws, walked. -/
namespace Go.Proofs.Ytapgcbjlgekpeaa
open Go.ChangeShapes Go.WideShapes Go.ChangeAt Go.RowKit

end Go.Proofs.Ytapgcbjlgekpeaa

/- Layer 2: WideScales, walked. -/
namespace Go.Proofs.Ytapgcbjlgekpeaa
open Go.ChangeShapes Go.WideShapes Go.ChangeAt Go.RowKit

theorem Bits.ceil (n c : Nat) (hc : 0 < c) (V : Nat) (hV : V = n / c + (if n % c = 0 then 0 else 1)) : n ≤ V * c ∧ (V = 0 ∨ (V - 1) * c < n) := by
  have h := Nat.div_add_mod' n c
  have hm := Nat.mod_lt n hc
  by_cases h0 : n % c = 0
  · rw [if_pos h0] at hV
    subst hV
    refine ⟨by rw [Nat.add_zero]; omega, ?_⟩
    by_cases hz : n / c = 0
    · exact .inl (by rw [hz])
    · right
      rw [Nat.add_zero, Nat.sub_mul, Nat.one_mul]
      have : c ≤ n / c * c := Nat.le_mul_of_pos_left c (Nat.pos_of_ne_zero hz)
      omega
  · rw [if_neg h0] at hV
    subst hV
    refine ⟨by rw [Nat.add_mul, Nat.one_mul]; omega, .inr (by rw [Nat.add_sub_cancel]; omega)⟩

theorem Wide.up_is (n c : Nat) (hc : 0 < c) : ∃ q : Nat, Wide.up n c = q ∧ q ≤ 9223372036854775807 ∧ (q = 9223372036854775807 → (q - 1) * c < n) ∧ (q ≠ 9223372036854775807 → Bits.up n c q = true) := by
  obtain ⟨V, hV⟩ : ∃ V, V = n / c + (if n % c = 0 then 0 else 1) := ⟨_, rfl⟩
  obtain ⟨h1, h2⟩ := Bits.ceil n c hc V hV
  have he : Wide.up n c = Bits.small V := by unfold Wide.up; rw [if_neg (by omega), ← hV]
  by_cases hs : V < 9223372036854775808
  · refine ⟨V, by rw [he]; unfold Bits.small; rw [if_pos hs], by omega, fun h => ?_, fun _ => ?_⟩
    · rcases h2 with h2 | h2
      · omega
      · exact h2
    · unfold Bits.up
      exact decide_eq_true ⟨h1, h2⟩
  · refine ⟨9223372036854775807, by rw [he]; unfold Bits.small; rw [if_neg hs]; rfl, by omega, fun _ => ?_, fun h => absurd rfl h⟩
    have h3 : (9223372036854775807 - 1) * c ≤ (V - 1) * c := Nat.mul_le_mul_right _ (by omega)
    rcases h2 with h2 | h2 <;> omega

end Go.Proofs.Ytapgcbjlgekpeaa

/- Layer 2: WideMeans, walked. -/
namespace Go.Proofs.Ytapgcbjlgekpeaa
open Go.ChangeShapes Go.WideShapes Go.ChangeAt Go.RowKit

theorem Bits.total_ge (l : List Int) (lo : Int) (h0 : 0 ≤ lo) (h : ∀ j, j < l.length → lo ≤ l[j]?.getD 0) : ∀ k, k ≤ l.length → lo * k ≤ Bits.total (l.take k) := by
  intro k
  induction k with
  | zero => intro _; simp
  | succ k ih =>
    intro hk
    have h1 := ih (by omega)
    have h2 := h k (by omega)
    rw [Bits.total_step l k (by omega)]
    have e : lo * ((k + 1 : Nat) : Int) = lo * k + lo := by rw [Int.natCast_add, Int.mul_add]; simp
    omega
theorem Bits.total_hi (l : List Int) (hi : Int) (h0 : 0 ≤ hi) (h : ∀ j, j < l.length → l[j]?.getD 0 ≤ hi) : ∀ k, k ≤ l.length → (Bits.total (l.take k) : Int) ≤ hi * k := by
  intro k
  induction k with
  | zero => intro _; simp [Bits.total]
  | succ k ih =>
    intro hk
    have h1 := ih (by omega)
    have h2 := h k (by omega)
    rw [Bits.total_step l k (by omega)]
    have e : hi * ((k + 1 : Nat) : Int) = hi * k + hi := by rw [Int.natCast_add, Int.mul_add]; simp
    omega

/-- A mean, rounded up. -/
theorem Wide.mean_is (l : List Int) (hl : ∀ n ∈ l, I64 n) (hp : 0 < l.length) : ∃ q : Nat, Wide.up (Bits.total l) l.length = q ∧ q ≤ 9223372036854775807 ∧ Bits.up (Bits.total l) l.length q = true ∧
    (∀ lo hi : Int, 0 ≤ lo → (∀ j, j < l.length → lo ≤ l[j]?.getD 0 ∧ l[j]?.getD 0 ≤ hi) → lo ≤ q ∧ (q : Int) ≤ hi) := by
  obtain ⟨V, hV⟩ : ∃ V, V = Bits.total l / l.length + (if Bits.total l % l.length = 0 then 0 else 1) := ⟨_, rfl⟩
  obtain ⟨h1, h2⟩ := Bits.ceil (Bits.total l) l.length hp V hV
  have hle : ∀ m : Nat, Bits.total l ≤ m * l.length → V ≤ m := fun m hm => by
    rcases h2 with h2 | h2
    · omega
    · have : (V - 1) * l.length < m * l.length := Nat.lt_of_lt_of_le h2 hm
      have := Nat.lt_of_mul_lt_mul_right this
      omega
  have ht := Bits.total_le l hl l.length (Nat.le_refl _)
  rw [List.take_length, Nat.mul_comm] at ht
  have hm := hle 9223372036854775807 ht
  refine ⟨V, ?_, hm, decide_eq_true ⟨h1, h2⟩, fun lo hi h0 hj => ?_⟩
  · unfold Wide.up
    rw [if_neg (by omega), ← hV]
    unfold Bits.small
    rw [if_pos (by omega)]
  · have a := Bits.total_ge l lo h0 (fun j h => (hj j h).1) l.length (Nat.le_refl _)
    have h00 := hj 0 hp
    have b := Bits.total_hi l hi (by omega) (fun j h => (hj j h).2) l.length (Nat.le_refl _)
    rw [List.take_length] at a b
    obtain ⟨L, rfl⟩ : ∃ L : Nat, lo = L := ⟨lo.toNat, by omega⟩
    obtain ⟨H, rfl⟩ : ∃ H : Nat, hi = H := ⟨hi.toNat, by omega⟩
    have a' : L * l.length ≤ Bits.total l := by exact_mod_cast a
    have b' : Bits.total l ≤ H * l.length := by exact_mod_cast b
    have c := hle H b'
    have d : L * l.length ≤ V * l.length := Nat.le_trans a' h1
    have := Nat.le_of_mul_le_mul_right d hp
    omega

end Go.Proofs.Ytapgcbjlgekpeaa

/- Layer 9: more contracts, and the reference's. -/
namespace Go.Proofs.Ytapgcbjlgekpeaa
open Go.ChangeShapes Go.WideShapes Go.ChangeAt Go.RowKit

theorem same_from' {α : Type} [Inhabited α] {a b : List α} {k : Nat} (hk : k = a.length) (hl : a.length = b.length) (h : ∀ j, j < k → a[j]?.getD default = b[j]?.getD default) : a = b := by
  apply List.ext_getElem hl
  intro i h1 h2
  have := h i (by omega)
  simpa [h1, h2] using this

set_option maxHeartbeats 1000000 in
set_option maxRecDepth 100000 in
theorem ref08_same (p q : Option Addr) (c d : Nat) (a b : List Samp) (w : World) (ha : Samps w p a) (hb : Samps w q b) (la : a.length ≤ 9223372036854775807) (lb : b.length ≤ 9223372036854775807) :
    Calls Try.prog 38 #[.slice p a.length c, .slice q b.length d] w fun e w' => e = .returned (.bool (decide (a = b))) ∧ Below w.heap.size w w' := by
  have HA := Lib.hid ha
  have HB := Lib.hid hb
  have HYES : Hid (a = b → decide (a = b) = true) := fun h => decide_eq_true h
  have HNO : Hid (¬ a = b → decide (a = b) = false) := fun h => decide_eq_false h
  obtain ⟨r, hr⟩ : ∃ r, r = decide (a = b) := ⟨_, rfl⟩
  rw [← hr] at HYES HNO ⊢
  obtain ⟨n, hn⟩ : ∃ n, n = a.length := ⟨_, rfl⟩
  obtain ⟨m, hm⟩ : ∃ m, m = b.length := ⟨_, rfl⟩
  rw [← hn] at la ⊢
  rw [← hm] at lb ⊢
  have HN := Lib.hid hn
  have HM := Lib.hid hm
  clear ha hb hr hn hm
  by_cases hne : n = m
  · subst hne
    go_enter Try.func38, Try.ntmps38
    go_wp2
    go_loopw [5] (fun i wr => ∃ k : Nat, k ≤ n ∧ i = .int .i64 k ∧ (∀ j, j < k → a[j]?.getD default = b[j]?.getD default) ∧ Below w.heap.size w wr) (fun i _ => n - (intOf i).toNat)
    case atStart => exact ⟨0, by omega, rfl, fun j hj => by omega, Below.refl _ _⟩
    case round =>
      obtain ⟨k, hk, rfl, hj, hBW⟩ := hrel
      have HJ := Lib.hid hj
      have HBW := Lib.hid hBW
      clear hj hBW
      by_cases hlt : k < n
      · obtain ⟨b1, o1, rfl, hb1, g0, g1⟩ := HA.out.cells k (by have := HN.out; omega)
        obtain ⟨b2, o2, rfl, hb2, g2, g3⟩ := HB.out.cells k (by have := HM.out; omega)
        rw [← HBW.out.cell (p := ⟨b1, _, none⟩) hb1] at g0 g1
        rw [← HBW.out.cell (p := ⟨b2, _, none⟩) hb2] at g2 g3
        have HX : Hid (a[k]?.getD default = b[k]?.getD default → ∀ j, j < k + 1 → a[j]?.getD default = b[j]?.getD default) := fun h j hj => by
          by_cases e : j = k
          · rw [e]; exact h
          · exact HJ.out j (by omega)
        have HXN : Hid (¬ a[k]?.getD default = b[k]?.getD default → ¬ a = b) := fun h e => h (by rw [e])
        obtain ⟨x, ex⟩ : ∃ x, x = a[k]?.getD default := ⟨_, rfl⟩
        obtain ⟨y, ey⟩ : ∃ y, y = b[k]?.getD default := ⟨_, rfl⟩
        rw [← ex] at g0 g1 HX HXN
        rw [← ey] at g2 g3 HX HXN
        clear ex ey
        have i1 : (0 : Int) ≤ k := by omega
        have i2 : (k : Int) < n := by omega
        by_cases hxy : x = y
        · subst hxy
          have HX2 := Lib.hid (HX.out rfl)
          clear HX HXN
          go_wp2
          go_quiet (fail)
          go_wp2
          exact ⟨⟨k + 1, by omega, by go_num, HX2.out, below_drewN HBW.out nq⟩, by simp [intOf]; omega⟩
        · have HE := Lib.hid (HNO.out (HXN.out hxy))
          clear HX HXN
          by_cases ht : x.tick = y.tick
          · have hv : ¬ x.val = y.val := fun h => hxy (by cases x; cases y; simp_all)
            have t1 : (x.tick == y.tick) = true := beq_iff_eq.2 ht
            have t2 : (x.val == y.val) = false := beq_eq_false_iff_ne.2 hv
            clear hxy ht
            go_wp2
            go_quiet (fail)
            go_wp2
            go_ret
            exact ⟨ret_bool HE.out.symm, below_drewN HBW.out _⟩
          · have t1 : (x.tick == y.tick) = false := beq_eq_false_iff_ne.2 ht
            clear hxy ht
            go_wp2
            go_quiet (fail)
            go_wp2
            go_ret
            exact ⟨ret_bool HE.out.symm, below_drewN HBW.out _⟩
      · obtain rfl : k = n := by omega
        have HE := Lib.hid (HYES.out (same_from' (k := k) HN.out (by rw [← HN.out, ← HM.out]) HJ.out))
        go_wp2
        go_ret
        exact ⟨ret_bool HE.out.symm, HBW.out⟩
  · have HE := Lib.hid (HNO.out (fun h => hne (by rw [HN.out, HM.out, h])))
    have hni : ¬ (n : Int) = m := by omega
    go_enter Try.func38, Try.ntmps38
    go_wp2
    go_ret
    exact ⟨ret_bool HE.out.symm, Below.refl _ _⟩


def Win.from (to width : Int) : Int := Sat.clamp (Sat.clamp (to - width) + 1)

end Go.Proofs.Ytapgcbjlgekpeaa

/- Layer 9's reference. -/
namespace Go.Proofs.Ytapgcbjlgekpeaa
open Go.ChangeShapes Go.WideShapes Go.ChangeAt Go.RowKit

end Go.Proofs.Ytapgcbjlgekpeaa

/- Layer 9: what is told is right, by the reference. -/
namespace Go.Proofs.Ytapgcbjlgekpeaa
open Go.ChangeShapes Go.WideShapes Go.ChangeAt Go.RowKit

end Go.Proofs.Ytapgcbjlgekpeaa
