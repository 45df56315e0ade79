/- Layer 27: the law, walked: who looks on may say that it is enough. -/
import Derived.Test.YtldhbgefpfmkmaaJLaws27b
import Derived.Test.YtldhbgefpfmkmaaJSched10
namespace Go.Proofs.Ytldhbgefpfmkmaa
open Go.ChangeShapes Go.WideShapes Go.ChangeAt Go.RowKit

section
variable (q : Option Addr) (cap n : Nat) (l : List Toy) (m : Nat) (P : List Int) (pc : Nat) (cut : Nat) (w : World)
set_option maxHeartbeats 1000000 in
set_option maxRecDepth 100000 in
theorem schedWatches_out (pq : Option Addr) (hb : n ≤ 9223372036854775807) (hm : m ≤ 9223372036854775807) (hs : Toys w q l) (en : l.length = n) (hf : Tk.few l m = false) :
    Calls Try.prog 11 #[.slice q n cap, .slice pq m pc, .int .u8 cut] w fun e w' => e = .returned (.bool true) ∧ Below w.heap.size w w' := by
  have FW := Lib.hid (fun W h => law27_few q n cap l en (by omega) pq m pc (by omega) W h)
  rw [hf] at FW
  have HS := Lib.hid hs
  clear hs hf en
  go_enter Try.func11, Try.ntmps11
  go_wp2_with fail
  (with_reducible refine (awake27 _).mono ?_)
  rintro e w1 ⟨rfl, hb1⟩
  have B1 := Lib.hid hb1
  clear hb1
  go_wp2_with fail
  (with_reducible refine (FW.out _ (HS.out.below B1.out)).mono ?_)
  rintro e w2 ⟨rfl, hb2⟩
  have B2 := Lib.hid (B1.out.trans (hb2.mono B1.out.size))
  clear hb2
  go_wp2
  go_ret
  exact ⟨rfl, B2.out⟩

set_option maxHeartbeats 8000000 in
set_option maxRecDepth 100000 in
theorem schedWatches_in (pq : Option Addr) (hqn : q = none → n = 0 ∧ cap = 0) (hl : ∀ a ∈ l, a.In) (hP : ∀ x ∈ P, I64 x) (hs : Toys w q l) (en : l.length = n) (em : P.length = m) (hc : cut < 256) (k : Nat) (ek : k = cut % 20) (hi : Ints .i64 w pq P) (hf : Tk.few l m = true) :
    Calls Try.prog 11 #[.slice q n cap, .slice pq m pc, .int .u8 cut] w fun e w' => e = .returned (.bool true) ∧ Below w.heap.size w w' := by
  obtain ⟨hn, hm100, hph⟩ := Tk.few_of hf
  have FW := fun W h => law27_few q n cap l en (by omega) pq m pc (by omega) W h
  rw [hf] at FW
  have FW := Lib.hid FW
  rw [en] at hn hph
  have hT : ∀ i, i < n → (l[i]?.getD default).In ∧ 0 ≤ (l[i]?.getD default).phase ∧ (l[i]?.getD default).phase ≤ 1000 := fun i hi => ⟨by rw [List.getElem?_eq_getElem (by omega)]; exact hl _ (List.getElem_mem _), (hph i hi).1, (hph i hi).2.1⟩
  have hki : (cut : Int) % 20 = (k : Nat) := by omega
  have hk20 : k < 20 := by omega
  have TK := Lib.hid (fun W h => law27_tasks q n cap l en (by omega) W h)
  have RR := fun W h h2 => ref27_run (w := W) (q := q) h en cap hqn hT (by omega) pq m pc P em (by omega) hP h2
  have HS := Lib.hid hs
  have HT := Lib.hid hT
  have HPI := Lib.hid hP
  have HI := Lib.hid hi
  have EM := Lib.hid em
  have hg := Tk.good (n := n) (u0 := 0) (T := fun i => l[i]?.getD default) hT P m
  obtain ⟨s, es⟩ : ∃ s, s = Tk.at n 0 (fun i => l[i]?.getD default) P m := ⟨_, rfl⟩
  simp only [← es] at RR hg
  have hr := hg.1
  have RR := Lib.hid RR
  have ES := Lib.hid es
  obtain ⟨r, er⟩ : ∃ r, r = Tk.lim k s.r := ⟨_, rfl⟩
  have ER := Lib.hid er
  clear hf hs hl hph hT hP hi en em ek es hg hqn er
  go_enter Try.func11, Try.ntmps11
  go_wp2_with fail
  (with_reducible refine (awake27 _).mono ?_)
  rintro e w1 ⟨rfl, hb1⟩
  have B1 := Lib.hid hb1
  clear hb1
  go_wp2_with fail
  (with_reducible refine (FW.out _ (HS.out.below B1.out)).mono ?_)
  rintro e w2 ⟨rfl, hb2⟩
  have B2 := Lib.hid (B1.out.trans (hb2.mono B1.out.size))
  clear hb2
  go_wp2_with fail
  (with_reducible refine (TK.out _ (HS.out.below B2.out)).mono ?_)
  rintro e w3 ⟨p3, c3, b3, rfl, hM3⟩
  obtain ⟨hT3, hof3, hqb3⟩ := hM3.tasks
  have hlt3 := hT3.lt
  have B3 := Lib.hid (B2.out.trans (hM3.below.mono B2.out.size))
  have B4 := Lib.hid (B3.out.trans ((below1 w3 (.cells #[.int .i64 0, .int .i64 k] 95)).mono B3.out.size))
  have P4 := sched_look 0 (hT3.below (below1 w3 (.cells #[.int .i64 0, .int .i64 k] 95))) HT.out (by omega) (by omega) c3 pq m pc P EM.out (by omega) HPI.out (Sl.below HI.out B4.out) w3.heap.size k (by omega) (heap_alloc_new _ _) (fun h => Nat.lt_irrefl _ (hlt3 _ h)) (fun ad had e => by have := hqb3 ad had; omega) (fun hm0 ad had hh => by
      have h2 := B2.out.size
      have h3 := B3.out.size
      obtain ⟨b', off', e', hb', _⟩ := Sl.pos HI.out (by have := EM.out; omega)
      rw [e'] at had
      cases had
      rcases hh with hh | hh
      · have h1 := hof3 _ hh
        simp only at h1
        omega
      · simp only at hh
        omega) (fun j hj ad had e => by have := hqb3 ad had; have := (below1 w3 (.cells #[.int .i64 0, .int .i64 k] 95)).size; omega)
  rw [show ((0 : Nat) : Int) = 0 from rfl, ← ES.out, ← ER.out] at P4
  have P4 := Lib.hid P4
  have HOF := Lib.hid (fun k (h : Tk.ofl _ _ _ w3.heap.size k) => show w2.heap.size ≤ k from h.elim (hof3 k) (fun e => e ▸ hM3.below.size))
  have HS23 := Lib.hid (Nat.le_trans hM3.below.size (below1 w3 (.cells #[.int .i64 0, .int .i64 k] 95)).size)
  clear hM3 hT3 hof3 hqb3 hlt3
  go_wp2_with fail
  (with_reducible refine P4.out.mono ?_)
  rintro e w4 ⟨⟨stk, rfl⟩, ht4, hl4⟩
  have B5 := Lib.hid (B4.out.trans ((ht4.below HOF.out HS23.out).mono B2.out.size))
  have M5 := Lib.hid ((⟨B5.out, fun _ _ _ h => by simp at h, fun _ _ _ _ _ h => by simp at h, fun _ _ _ h => by simp at h⟩ : Mem w w4 []).alloc (.cells #[.int .i64 r, .slice (some ⟨w3.heap.size + 1 + 1, 0, none⟩) n n, .bool stk] 81))
  have L5 := ((below1 w4 (.cells #[.int .i64 r, .slice (some ⟨w3.heap.size + 1 + 1, 0, none⟩) n n, .bool stk] 81)).block _ (lt_of_heap hl4)).trans hl4
  have RR5 := Lib.hid (RR.out _ (HS.out.below M5.out.below) (Sl.below HI.out M5.out.below))
  have L5 := Lib.hid L5
  clear ht4 hl4 P4
  go_wp2_with fail
  (with_reducible refine RR5.out.mono ?_)
  rintro e w6 ⟨p6, c6, rfl, _, _, hb6⟩
  have M6 := Lib.hid (M5.out.call hb6)
  have L6 := (hb6.block _ (lt_of_heap L5.out)).trans L5.out
  have l0 : w6.cell? ⟨w3.heap.size, 0, none⟩ = some (.int .i64 r) := by rw [cell_of_row _ _ _ _ _ _ L6]; rfl
  have r0 := M6.out.cell 0 0 rfl rfl
  have HB := Lib.hid M6.out.below
  have HE := ER.out
  unfold Tk.lim at HE
  clear L6 hb6 M5 L5 RR5
  rcases Nat.eq_zero_or_pos k with hk0 | hk0
  · rw [if_pos hk0] at HE
    subst hk0
    subst HE
    go_wp2
    go_ret
    exact ⟨rfl, HB.out⟩
  · rw [if_neg (by omega)] at HE
    have dk : decide ((0 : Int) < (k : Nat)) = true := decide_eq_true (by omega)
    rcases Nat.lt_or_ge k s.r with h1 | h1
    · have d1 : decide ((k : Int) < (s.r : Nat)) = true := decide_eq_true (by omega)
      have d2 : decide ((s.r : Int) < (k : Nat)) = false := decide_eq_false (by omega)
      have hrk : k = r := by omega
      clear HE
      subst hrk
      go_wp2
      go_ret
      exact ⟨rfl, HB.out⟩
    · have d1 : decide ((k : Int) < (s.r : Nat)) = false := decide_eq_false (by omega)
      have hrk : s.r = r := by omega
      clear HE
      rcases Nat.lt_or_ge s.r k with h2 | h2
      · have d2 : decide ((s.r : Int) < (k : Nat)) = true := decide_eq_true (by omega)
        subst hrk
        go_wp2
        go_ret
        exact ⟨rfl, HB.out⟩
      · have d2 : decide ((s.r : Int) < (k : Nat)) = false := decide_eq_false (by omega)
        subst hrk
        obtain rfl : k = s.r := by omega
        go_wp2
        go_ret
        exact ⟨rfl, HB.out⟩
end
theorem schedWatches_walk (q : Option Addr) (cap : Nat) (l : List Toy) (hl : ∀ a ∈ l, a.In) (hb : l.length ≤ 9223372036854775807) (hqn : q = none → l.length = 0 ∧ cap = 0) (pq : Option Addr) (pc : Nat) (P : List Int) (hP : ∀ x ∈ P, I64 x) (hm : P.length ≤ 9223372036854775807) (cut : Nat) (hc : cut < 256) (w : World) (hs : Toys w q l) (hi : Ints .i64 w pq P) :
    Calls Try.prog 11 #[.slice q l.length cap, .slice pq P.length pc, .int .u8 cut] w fun e w' => e = .returned (.bool true) ∧ Below w.heap.size w w' := by
  cases hf : Tk.few l P.length with
  | false => exact schedWatches_out q cap _ l _ pc cut w pq hb hm hs rfl hf
  | true => exact schedWatches_in q cap _ l _ P pc cut w pq hqn hl hP hs rfl rfl hc _ rfl hi hf
end Go.Proofs.Ytldhbgefpfmkmaa
