/- Layer 27: the law, walked: each task does its steps in turn. -/
import Derived.Test.YtldhbgefpfmkmaaJLaws27
namespace Go.Proofs.Ytldhbgefpfmkmaa
open Go.ChangeShapes Go.WideShapes Go.ChangeAt Go.RowKit

set_option maxHeartbeats 8000000 in
set_option maxRecDepth 100000 in
theorem schedRuns_walk (q : Option Addr) (cap : Nat) (l : List Toy) (hl : ∀ a ∈ l, a.In) (hb : l.length ≤ 9223372036854775807) (hqn : q = none → l.length = 0 ∧ cap = 0) (pq : Option Addr) (pc : Nat) (P : List Int) (hP : ∀ x ∈ P, I64 x) (hm : P.length ≤ 9223372036854775807) (w : World) (hs : Toys w q l) (hi : Ints .i64 w pq P) :
    Calls Try.prog 8 #[.slice q l.length cap, .slice pq P.length pc] w fun e w' => e = .returned (.bool true) ∧ Below w.heap.size w w' := by
  obtain ⟨n, en⟩ : ∃ n, n = l.length := ⟨_, rfl⟩
  obtain ⟨m, em⟩ : ∃ n, n = P.length := ⟨_, rfl⟩
  have FW := Lib.hid (fun W h => law27_few q n cap l en.symm (by omega) pq m pc (by omega) W h)
  rw [← en] at hb hqn ⊢
  rw [← em] at hm ⊢
  have HS := Lib.hid hs
  cases hf : Tk.few l m with
  | false =>
    rw [hf] at FW
    clear hf en hs hl em hi hP hqn
    go_enter Try.func8, Try.ntmps8
    go_wp2_with fail
    (with_reducible refine (awake27 _).mono ?_)
    rintro e w1 ⟨rfl, hb1⟩
    have B1 := Lib.hid hb1
    clear hb1
    go_wp2_with fail
    (with_reducible refine (FW.out _ (HS.out.below B1.out)).mono ?_)
    rintro e w2 ⟨rfl, hb2⟩
    have B2 := Lib.hid (B1.out.trans (hb2.mono B1.out.size))
    clear hb2
    go_wp2
    go_ret
    exact ⟨rfl, B2.out⟩
  | true =>
    rw [hf] at FW
    obtain ⟨hn, hm100, hph⟩ := Tk.few_of hf
    rw [← en] at hn hph
    have hT : ∀ i, i < n → (l[i]?.getD default).In ∧ 0 ≤ (l[i]?.getD default).phase ∧ (l[i]?.getD default).phase ≤ 1000 := fun i hi => ⟨by rw [List.getElem?_eq_getElem (by omega)]; exact hl _ (List.getElem_mem _), (hph i hi).1, (hph i hi).2.1⟩
    have TK := Lib.hid (fun W h => law27_tasks q n cap l en.symm (by omega) W h)
    have RR := fun W h h2 => ref27_run (w := W) (q := q) h en.symm cap hqn hT (by omega) pq m pc P em.symm (by omega) hP h2
    have HT := Lib.hid hT
    have HPI := Lib.hid hP
    have HI := Lib.hid hi
    have EM := Lib.hid em.symm
    have HG := Lib.hid (Tk.good (n := n) (u0 := 0) (T := fun i => l[i]?.getD default) hT P m)
    obtain ⟨s, es⟩ : ∃ s, s = Tk.at n 0 (fun i => l[i]?.getD default) P m := ⟨_, rfl⟩
    simp only [← es] at RR HG
    have RR := Lib.hid RR
    have ES := Lib.hid es
    obtain ⟨y, ey⟩ : ∃ y, y = Tk.next n s.T (s.r : Nat) 0 := ⟨_, rfl⟩
    obtain ⟨op, eop⟩ : ∃ y, y = Tk.open' s.T n := ⟨_, rfl⟩
    have hstk : Tk.stuck n s.T (s.r : Nat) = (decide (y < 0) && decide (0 < op)) := by rw [ey, eop]; rfl
    obtain ⟨stk, est⟩ : ∃ y, y = Tk.stuck n s.T (s.r : Nat) := ⟨_, rfl⟩
    rw [← est] at hstk
    have EY := Lib.hid ey
    have EOP := Lib.hid eop
    have EST := Lib.hid est
    have HSTK := Lib.hid hstk
    clear hf en hs hl hph hT em hi hP hqn es ey eop hstk est
    go_enter Try.func8, Try.ntmps8
    go_wp2_with fail
    (with_reducible refine (awake27 _).mono ?_)
    rintro e w1 ⟨rfl, hb1⟩
    have B1 := Lib.hid hb1
    clear hb1
    go_wp2_with fail
    (with_reducible refine (FW.out _ (HS.out.below B1.out)).mono ?_)
    rintro e w2 ⟨rfl, hb2⟩
    have B2 := Lib.hid (B1.out.trans (hb2.mono B1.out.size))
    clear hb2
    go_wp2_with fail
    (with_reducible refine (TK.out _ (HS.out.below B2.out)).mono ?_)
    rintro e w3 ⟨p3, c3, b3, rfl, hM3⟩
    obtain ⟨hT3, hof3, hqb3⟩ := hM3.tasks
    have B3 := Lib.hid (B2.out.trans (hM3.below.mono B2.out.size))
    have P4 := sched_run 0 hT3 HT.out (by omega) (by omega) c3 pq m pc P EM.out (by omega) HPI.out (Sl.below HI.out B3.out) (fun hm0 ad had hh => by
      have h1 := hof3 _ hh
      have h2 := B2.out.size
      obtain ⟨b', off', e', hb', _⟩ := Sl.pos HI.out (by have := EM.out; omega)
      rw [e'] at had
      cases had
      simp only at h1
      omega) (fun k hk ad had e => by have := hqb3 ad had; omega)
    rw [show ((0 : Nat) : Int) = 0 from rfl, ← ES.out] at P4
    simp only [Int.zero_add] at P4
    rw [← EST.out] at P4
    have P4 := Lib.hid P4
    have HOF := Lib.hid hof3
    have HS23 := Lib.hid hM3.below.size
    clear hM3 hT3 hof3 hqb3
    go_wp2_with fail
    (with_reducible refine P4.out.mono ?_)
    rintro e w4 ⟨rfl, hT4, ht4, hst4⟩
    have B4 := Lib.hid (B3.out.trans ((ht4.below HOF.out HS23.out).mono B2.out.size))
    have M5 := Lib.hid ((⟨B4.out, fun _ _ _ h => by simp at h, fun _ _ _ _ _ h => by simp at h, fun _ _ _ h => by simp at h⟩ : Mem w w4 []).alloc (.cells #[.int .i64 (s.r : Nat), .slice (some ⟨w3.heap.size + 2, 0, none⟩) n n, .bool stk] 81))
    have T5 := Lib.hid (hT4.below (below1 w4 (.cells #[.int .i64 (s.r : Nat), .slice (some ⟨w3.heap.size + 2, 0, none⟩) n n, .bool stk] 81)))
    have I5 := Lib.hid (Sl.below (ints_of_row hst4) (below1 w4 (.cells #[.int .i64 (s.r : Nat), .slice (some ⟨w3.heap.size + 2, 0, none⟩) n n, .bool stk] 81)))
    clear hT4 ht4 hst4 P4 HOF
    have HI5 : Ints .i64 (w4.alloc (.cells #[.int .i64 (s.r : Nat), .slice (some ⟨w3.heap.size + 2, 0, none⟩) n n, .bool stk] 81)) pq P := Sl.below HI.out M5.out.below
    have RR5 := Lib.hid (RR.out _ (HS.out.below M5.out.below) HI5)
    clear HI5
    go_wp2_with fail
    (with_reducible refine RR5.out.mono ?_)
    rintro e w6 ⟨p6, c6, rfl, hst6, hty6, hb6⟩
    obtain ⟨Z, hZ⟩ : ∃ Z, (w4.alloc (.cells #[.int .i64 (s.r : Nat), .slice (some ⟨w3.heap.size + 2, 0, none⟩) n n, .bool stk] 81)).heap.size = Z := ⟨_, rfl⟩
    rw [hZ] at hst6
    have M6 := Lib.hid (M5.out.call hb6)
    have T6 := Lib.hid (T5.out.below hb6)
    have I6 := Lib.hid (Sl.below I5.out hb6)
    have J6 := Lib.hid (ints_of_row hst6)
    have Y6 := Lib.hid hty6
    have hg := HG.out
    have hfine : Tk.Fine n (fun i => (Tk.list n s.T)[i]?.getD default) (s.r : Nat) := ⟨fun i hi => by rw [Tk.list_get n s.T i hi]; exact (hg.2.2.1 i hi).1, fun i hi => by rw [Tk.list_get n s.T i hi]; exact ⟨(hg.2.2.1 i hi).2.1, (hg.2.2.1 i hi).2.2.1⟩, by omega, by have := hg.1; omega⟩
    have N7 := ref27_next (cap := c6) hty6 (Tk.list_len n s.T) (s.r : Nat) hfine (by omega) 0 ⟨by omega, by omega⟩
    rw [Tk.next_congr (fun i hi => Tk.list_get n s.T i hi), ← EY.out] at N7
    have N7 := Lib.hid N7
    have hlen := hg.2.1
    clear hst6 hty6 hb6 hfine M5 T5 I5 hg
    rw [hZ]
    clear hZ
    go_wp2_with fail
    (with_reducible refine N7.out.mono ?_)
    rintro e w7 ⟨rfl, hb7⟩
    have M7 := Lib.hid (M6.out.call hb7)
    have T7 := Lib.hid (T6.out.below hb7)
    have I7 := Lib.hid (Sl.below I6.out hb7)
    have J7 := Lib.hid (Sl.below J6.out hb7)
    have Y7 := Lib.hid (Y6.out.below hb7)
    have O7 := ref27_open (cap := c6) Y7.out (Tk.list_len n s.T) (by omega)
    rw [Tk.open_congr n (fun i hi => Tk.list_get n s.T i hi), ← EOP.out] at O7
    have O7 := Lib.hid O7
    have r0 := M7.out.cell 0 0 rfl rfl
    have r1 := M7.out.cell 0 1 rfl rfl
    have S7 := ref07_same (some ⟨w3.heap.size + 2, 0, none⟩) (some ⟨Z, 0, none⟩) n n s.st s.st w7 I7.out J7.out (by omega) (by omega)
    rw [decide_eq_true rfl, hlen] at S7
    have S7 := Lib.hid S7
    clear hb7 M6 T6 I6 J6 Y6 N7
    have hkk : (stk = true ∧ y < 0 ∧ 0 < op) ∨ (stk = false ∧ y < 0 ∧ ¬ 0 < op) ∨ (stk = false ∧ ¬ y < 0) := by
      have h := HSTK.out
      by_cases h1 : y < 0
      · by_cases h2 : 0 < op
        · exact .inl ⟨by rw [h, decide_eq_true h1, decide_eq_true h2]; rfl, h1, h2⟩
        · exact .inr (.inl ⟨by rw [h, decide_eq_true h1, decide_eq_false h2]; rfl, h1, h2⟩)
      · exact .inr (.inr ⟨by rw [h, decide_eq_false h1]; rfl, h1⟩)
    rcases hkk with ⟨e1, h1, h2⟩ | ⟨e1, h1, h2⟩ | ⟨e1, h1⟩
    · have d2 : decide (0 < op) = true := decide_eq_true h2
      subst e1
      go_wp2_with ((with_reducible refine O7.out.mono ?_); rintro e w8 ⟨rfl, rfl⟩)
      (with_reducible refine S7.out.mono ?_)
      rintro e w8 ⟨rfl, hb8⟩
      have M8 := Lib.hid (M7.out.call hb8)
      have r2 := M8.out.cell 0 2 rfl rfl
      have OP := Lib.hid (sched_open (T7.out.below hb8) (by omega) c3)
      have OR := ref27_open (cap := c6) (Y7.out.below hb8) (Tk.list_len n s.T) (by omega)
      rw [Tk.open_congr n (fun i hi => Tk.list_get n s.T i hi)] at OR
      have OR := Lib.hid OR
      have HB := Lib.hid M8.out.below
      clear hb8
      go_wp2_with (first | ((with_reducible refine OP.out.mono ?_); rintro e w9 ⟨rfl, rfl⟩) | ((with_reducible refine OR.out.mono ?_); rintro e w9 ⟨rfl, rfl⟩))
      go_ret
      exact ⟨rfl, HB.out⟩
    · have d2 : decide (0 < op) = false := decide_eq_false h2
      subst e1
      go_wp2_with ((with_reducible refine O7.out.mono ?_); rintro e w8 ⟨rfl, rfl⟩)
      (with_reducible refine S7.out.mono ?_)
      rintro e w8 ⟨rfl, hb8⟩
      have M8 := Lib.hid (M7.out.call hb8)
      have r2 := M8.out.cell 0 2 rfl rfl
      have OP := Lib.hid (sched_open (T7.out.below hb8) (by omega) c3)
      have OR := ref27_open (cap := c6) (Y7.out.below hb8) (Tk.list_len n s.T) (by omega)
      rw [Tk.open_congr n (fun i hi => Tk.list_get n s.T i hi)] at OR
      have OR := Lib.hid OR
      have HB := Lib.hid M8.out.below
      clear hb8
      go_wp2_with (first | ((with_reducible refine OP.out.mono ?_); rintro e w9 ⟨rfl, rfl⟩) | ((with_reducible refine OR.out.mono ?_); rintro e w9 ⟨rfl, rfl⟩))
      go_ret
      exact ⟨rfl, HB.out⟩
    · have d2 : decide (y < 0) = false := decide_eq_false h1
      subst e1
      go_wp2_with ((with_reducible refine O7.out.mono ?_); rintro e w8 ⟨rfl, rfl⟩)
      (with_reducible refine S7.out.mono ?_)
      rintro e w8 ⟨rfl, hb8⟩
      have M8 := Lib.hid (M7.out.call hb8)
      have r2 := M8.out.cell 0 2 rfl rfl
      have OP := Lib.hid (sched_open (T7.out.below hb8) (by omega) c3)
      have OR := ref27_open (cap := c6) (Y7.out.below hb8) (Tk.list_len n s.T) (by omega)
      rw [Tk.open_congr n (fun i hi => Tk.list_get n s.T i hi)] at OR
      have OR := Lib.hid OR
      have HB := Lib.hid M8.out.below
      clear hb8
      go_wp2_with (first | ((with_reducible refine OP.out.mono ?_); rintro e w9 ⟨rfl, rfl⟩) | ((with_reducible refine OR.out.mono ?_); rintro e w9 ⟨rfl, rfl⟩))
      go_ret
      exact ⟨rfl, HB.out⟩
end Go.Proofs.Ytldhbgefpfmkmaa
