/- Layer 27: the law, walked: a run of some picks, and a run of the others behind it. -/
import Derived.Test.YtldhbgefpfmkmaaJLaws27b
import Derived.Test.YtldhbgefpfmkmaaJSchedP
namespace Go.Proofs.Ytldhbgefpfmkmaa
open Go.ChangeShapes Go.WideShapes Go.ChangeAt Go.RowKit

theorem Mem.more {w w' : World} {bs : List (Nat × Obj)} (h : Mem w w' bs) {g : Nat} {o : Obj} (ho : w'.heap[g]? = some o) (hg : w.heap.size ≤ g) (hne : ∀ (i : Nat) (o' : Obj), bs[i]? ≠ some (g, o')) : Mem w w' (bs ++ [(g, o)]) := by
  have key : ∀ (i b : Nat) (x : Obj), (bs ++ [(g, o)])[i]? = some (b, x) → bs[i]? = some (b, x) ∨ (i = bs.length ∧ b = g ∧ x = o) := by
    intro i b x hi
    rw [List.getElem?_append] at hi
    split at hi
    · exact .inl hi
    · cases hk : i - bs.length with
      | zero => rw [hk] at hi; simp at hi; exact .inr ⟨by omega, hi.1.symm, hi.2.symm⟩
      | succ k => rw [hk] at hi; simp at hi
  refine ⟨h.below, fun i b x hi => ?_, fun i j b x y hi hj => ?_, fun i b x hi => ?_⟩
  · rcases key i b x hi with e | ⟨_, rfl, rfl⟩
    · exact h.has i b x e
    · exact ho
  · rcases key i b x hi with e | ⟨e1, e2, _⟩ <;> rcases key j b y hj with f | ⟨f1, f2, _⟩
    · exact h.apart i j b x y e f
    · rw [f2] at e; exact absurd e (hne i x)
    · rw [e2] at f; exact absurd f (hne j y)
    · omega
  · rcases key i b x hi with e | ⟨_, rfl, _⟩
    · exact h.own i b x e
    · exact hg
theorem Mem.turned27 {S : Nat → Prop} {w w' w'' : World} {bs : List (Nat × Obj)} (h : Mem w w' bs) (ht : Turned S w' w'') (hS : ∀ k, S k → w.heap.size ≤ k ∧ ∀ (i : Nat) (o : Obj), bs[i]? ≠ some (k, o)) : Mem w w'' bs :=
  ⟨h.below.trans (ht.below (fun k hk => (hS k hk).1) h.below.size), fun i b o hi => (ht.block b (h.lt hi) (fun hk => (hS b hk).2 i o hi)).trans (h.has i b o hi), h.apart, h.own⟩
theorem Tk.sum_take (L : List Int) (i : Nat) (h : i < L.length) : (L.take (i + 1)).sum = (L.take i).sum + L[i]?.getD 0 := by
  rw [List.take_succ_eq_append_getElem h, List.sum_append, List.getElem?_eq_getElem h]
  simp
theorem Tk.sum_bd (L : List Int) (B : Int) (h : ∀ i : Nat, 0 ≤ L[i]?.getD 0 ∧ L[i]?.getD 0 ≤ B) : ∀ i, i ≤ L.length → 0 ≤ (L.take i).sum ∧ (L.take i).sum ≤ i * B
  | 0, _ => by simp
  | i + 1, hi => by
    have ih := Tk.sum_bd L B h i (by omega)
    rw [Tk.sum_take L i (by omega)]
    have := h i
    rw [show ((i + 1 : Nat) : Int) * B = i * B + B by rw [show ((i + 1 : Nat) : Int) = (i : Int) + 1 by omega, Int.add_mul, Int.one_mul]]
    omega

section
variable (q : Option Addr) (cap n : Nat) (l : List Toy) (en : l.length = n) (m : Nat) (P : List Int) (em : P.length = m) (pc : Nat) (cut : Nat) (hc : cut < 256) (w : World)
set_option maxHeartbeats 1000000 in
set_option maxRecDepth 100000 in
theorem schedParts_out (pq : Option Addr) (hb : n ≤ 9223372036854775807) (hm : m ≤ 9223372036854775807) (hs : Toys w q l) (en : l.length = n) (hf : Tk.few l m = false) :
    Calls Try.prog 10 #[.slice q n cap, .slice pq m pc, .int .u8 cut] w fun e w' => e = .returned (.bool true) ∧ Below w.heap.size w w' := by
  have FW := Lib.hid (fun W h => law27_few q n cap l en (by omega) pq m pc (by omega) W h)
  rw [hf] at FW
  have HS := Lib.hid hs
  clear hs hf en
  go_enter Try.func10, Try.ntmps10
  go_wp2_with fail
  (with_reducible refine (awake27 _).mono ?_)
  rintro e w1 ⟨rfl, hb1⟩
  have B1 := Lib.hid hb1
  clear hb1
  go_wp2_with fail
  (with_reducible refine (FW.out _ (HS.out.below B1.out)).mono ?_)
  rintro e w2 ⟨rfl, hb2⟩
  have B2 := Lib.hid (B1.out.trans (hb2.mono B1.out.size))
  clear hb2
  go_wp2
  go_ret
  exact ⟨rfl, B2.out⟩

set_option maxHeartbeats 8000000 in
set_option maxRecDepth 100000 in
theorem schedParts_in (bq off : Nat) (k : Nat) (ek : k = cut % (m + 1)) (hpk : k < pc) (hl : ∀ a ∈ l, a.In) (hP : ∀ x ∈ P, I64 x) (hpc : m ≤ pc) (hs : Toys w q l) (en : l.length = n) (em : P.length = m) (hc : cut < 256) (hi : Ints .i64 w (some ⟨bq, off, none⟩) P) (hf : Tk.few l m = true) :
    Calls Try.prog 10 #[.slice q n cap, .slice (some ⟨bq, off, none⟩) m pc, .int .u8 cut] w fun e w' => e = .returned (.bool true) ∧ Below w.heap.size w w' := by
  obtain ⟨hn, hm100, hph⟩ := Tk.few_of hf
  have FW := fun W h => law27_few q n cap l en (by omega) (some ⟨bq, off, none⟩) m pc (by omega) W h
  rw [hf] at FW
  have FW := Lib.hid FW
  rw [en] at hn hph
  have hT : ∀ i, i < n → (l[i]?.getD default).In ∧ 0 ≤ (l[i]?.getD default).phase ∧ (l[i]?.getD default).phase ≤ 1000 := fun i hi => ⟨by rw [List.getElem?_eq_getElem (by omega)]; exact hl _ (List.getElem_mem _), (hph i hi).1, (hph i hi).2.1⟩
  have hkm : k ≤ m := by have := Nat.mod_lt cut (show 0 < m + 1 by omega); omega
  have hki : (cut : Int) % ((m : Int) + 1) = (k : Nat) := by rw [ek, Int.natCast_emod, Int.natCast_add]; rfl
  have TK := Lib.hid (fun W h => law27_tasks q n cap l en (by omega) W h)
  have HS := Lib.hid hs
  have HT := Lib.hid hT
  have HPI := Lib.hid hP
  have HI := Lib.hid hi
  have hi1 : ∀ W, Below w.heap.size w W → Ints .i64 W (some ⟨bq, off, none⟩) (P.take k) := fun W hb => Ints.take (Sl.below hi hb) k
  have hi2 : ∀ W, Below w.heap.size w W → Ints .i64 W (some ⟨bq, off + k, none⟩) (P.drop k) := fun W hb => Ints.drop (Sl.below hi hb) k
  have HI1 := Lib.hid hi1
  have HI22 := Lib.hid hi2
  have EM := Lib.hid em
  have hg := Tk.good (n := n) (u0 := 0) (T := fun i => l[i]?.getD default) hT P k
  have hgm := Tk.good (n := n) (u0 := 0) (T := fun i => l[i]?.getD default) hT P m
  have hTa : ∀ i, i < n → ((Tk.at n 0 (fun i => l[i]?.getD default) P k).T i).In ∧ 0 ≤ ((Tk.at n 0 (fun i => l[i]?.getD default) P k).T i).phase ∧ ((Tk.at n 0 (fun i => l[i]?.getD default) P k).T i).phase ≤ 1000 := fun i hi => ⟨(hg.2.2.1 i hi).1, (hg.2.2.1 i hi).2.1, (hg.2.2.1 i hi).2.2.1⟩
  have hcg := Tk.at_congr (n := n) (u0 := 0) (T := fun i => l[i]?.getD default) (P := P.take k) (Q := P) k (fun i hi => by rw [List.getElem?_take_of_lt hi])
  have hua := Tk.used_all (n := n) (u0 := 0) (T := fun i => l[i]?.getD default) (P := P) k
  have hsty := fun h => Tk.stays (n := n) (u0 := 0) (T := fun i => l[i]?.getD default) (P := P) (k := k) h (m - k)
  have hpt := fun h => Tk.parts hT k h (m - k) (P := P)
  have hsum := Tk.sum_st (u0 := 0) hT P m
  rw [show k + (m - k) = m by omega] at hsty
  simp only [show k + (m - k) = m by omega] at hpt
  have hgb := Tk.good (n := n) (u0 := ((Tk.at n 0 (fun i => l[i]?.getD default) P k).r : Nat)) hTa (P.drop k) (m - k)
  obtain ⟨s, es⟩ : ∃ s, s = Tk.at n 0 (fun i => l[i]?.getD default) P m := ⟨_, rfl⟩
  obtain ⟨a, ea⟩ : ∃ s, s = Tk.at n 0 (fun i => l[i]?.getD default) P k := ⟨_, rfl⟩
  simp only [← es] at hsty hpt hsum hgm
  simp only [← ea] at hg hTa hcg hua hsty hpt hgb
  obtain ⟨b, eb⟩ : ∃ s, s = Tk.at n (a.r : Nat) a.T (P.drop k) (m - k) := ⟨_, rfl⟩
  simp only [← eb] at hpt hgb
  obtain ⟨ks, eks⟩ : ∃ x, x = Tk.stuck n s.T (s.r : Nat) := ⟨_, rfl⟩
  obtain ⟨ka, eka⟩ : ∃ x, x = Tk.stuck n a.T (a.r : Nat) := ⟨_, rfl⟩
  obtain ⟨kb, ekb⟩ : ∃ x, x = Tk.stuck n b.T ((a.r : Nat) + (b.r : Nat) : Int) := ⟨_, rfl⟩
  have ES := Lib.hid es
  have EB := Lib.hid eb
  have HCG := Lib.hid hcg
  have EKS := Lib.hid eks
  have EKA := Lib.hid eka
  have EKB := Lib.hid ekb
  have HTA := Lib.hid hTa
  have HUA := Lib.hid hua
  have HSTY := Lib.hid hsty
  have HPT := Lib.hid hpt
  have HSUM := Lib.hid hsum
  have HGM := Lib.hid hgm
  have HGA := Lib.hid hg
  have HGB := Lib.hid hgb
  have har : a.r ≤ k := hg.1
  clear hf hs hl hph hT hP hi hi1 hi2 en em ek es ea eb eks eka ekb hTa hcg hua hsty hpt hsum hg hgm hgb
  go_enter Try.func10, Try.ntmps10
  go_wp2_with fail
  (with_reducible refine (awake27 _).mono ?_)
  rintro e w1 ⟨rfl, hb1⟩
  have B1 := Lib.hid hb1
  clear hb1
  go_wp2_with fail
  (with_reducible refine (FW.out _ (HS.out.below B1.out)).mono ?_)
  rintro e w2 ⟨rfl, hb2⟩
  have B2 := Lib.hid (B1.out.trans (hb2.mono B1.out.size))
  clear hb2
  go_wp2_with fail
  (with_reducible refine (TK.out _ (HS.out.below B2.out)).mono ?_)
  rintro e w3 ⟨p3, c3, b3, rfl, hM3⟩
  obtain ⟨hT3, hof3, hqb3⟩ := hM3.tasks
  have B3 := Lib.hid (B2.out.trans (hM3.below.mono B2.out.size))
  have P4 := sched_run 0 hT3 HT.out (by omega) (by omega) c3 (some ⟨bq, off, none⟩) m pc P EM.out (by omega) HPI.out (Sl.below HI.out B3.out) (fun hm0 ad had hh => by
    have h1 := hof3 _ hh
    have h2 := B2.out.size
    obtain ⟨b', off', e', hb', _⟩ := Sl.pos HI.out (by have := EM.out; omega)
    rw [e'] at had
    cases had
    simp only at h1
    omega) (fun x hx ad had e => by have := hqb3 ad had; omega)
  rw [show ((0 : Nat) : Int) = 0 from rfl, ← ES.out] at P4
  simp only [Int.zero_add] at P4
  rw [← EKS.out] at P4
  have P4 := Lib.hid P4
  have HOF := Lib.hid hof3
  have HS23 := Lib.hid hM3.below.size
  clear hM3 hT3 hof3 hqb3
  go_wp2_with fail
  (with_reducible refine P4.out.mono ?_)
  rintro e w4 ⟨rfl, _, ht4, hst4⟩
  have B4 := (B3.out.trans ((ht4.below HOF.out HS23.out).mono B2.out.size))
  have hs3 := B3.out.size
  have hs34 := ht4.size
  obtain ⟨G1, hG1⟩ : ∃ g, w3.heap.size + 2 = g := ⟨_, rfl⟩
  rw [hG1] at hst4
  have hG1l := lt_of_heap hst4
  have M4 := (⟨B4, fun _ _ _ h => by simp at h, fun _ _ _ _ _ h => by simp at h, fun _ _ _ h => by simp at h⟩ : Mem w w4 []).more hst4 (by omega) (fun i o h => by simp at h)
  have M5 := Lib.hid (M4.alloc (.cells #[.int .i64 (s.r : Nat), .slice (some ⟨G1, 0, none⟩) n n, .bool ks] 81))
  obtain ⟨X1, hX1⟩ : ∃ x, w4.heap.size = x := ⟨_, rfl⟩
  obtain ⟨W5, hW5⟩ : ∃ W, W = w4.alloc (.cells #[.int .i64 (s.r : Nat), .slice (some ⟨G1, 0, none⟩) n n, .bool ks] 81) := ⟨_, rfl⟩
  rw [← hW5, hX1] at M5
  have hs5 : W5.heap.size = X1 + 1 := by rw [hW5, World.size_alloc, hX1]
  have HS5 := Lib.hid hs5
  have HG1X : Hid (G1 < X1) := by show _ < _; omega
  have TK6 := Lib.hid (TK.out _ (HS.out.below M5.out.below))
  clear B4 M4 ht4 hst4 P4 HOF hG1l hs34 hs3 hs5
  rw [hG1]
  go_upto_region 8 with fail
  rw [← hW5]
  try rw [hX1]
  clear hG1 hW5 hX1
  go_wp2_with fail
  (with_reducible refine TK6.out.mono ?_)
  rintro e w6 ⟨p6, c6, b6, rfl, hM6⟩
  obtain ⟨hT6, hof6, hqb6⟩ := hM6.tasks
  have M6 := Lib.hid (M5.out.call hM6.below)
  have hlt6 := hT6.lt
  have hs56 := hM6.below.size
  have P7 := sched_run 0 hT6 HT.out (by omega) (by omega) c6 (some ⟨bq, off, none⟩) k pc (P.take k) (by rw [List.length_take]; have := EM.out; omega) (by omega) (fun x hx => HPI.out x (List.mem_of_mem_take hx)) (HI1.out _ M6.out.below) (fun hk0 ad had hh => by
    have h1 := hof6 _ hh
    have h2 := M5.out.below.size
    obtain ⟨b', off', e', hb', _⟩ := Sl.pos HI.out (by have := EM.out; omega)
    rw [e'] at had
    cases had
    simp only at h1
    omega) (fun x hx ad had e => by have := hqb6 ad had; omega)
  rw [show ((0 : Nat) : Int) = 0 from rfl, HCG.out] at P7
  simp only [Int.zero_add] at P7
  rw [← EKA.out] at P7
  have P7 := Lib.hid P7
  have HOF6 := Lib.hid hof6
  have HLT6 := Lib.hid hlt6
  have HQB6 := Lib.hid hqb6
  have HS56 := Lib.hid hs56
  clear hM6 hT6 hof6 hqb6 hlt6 hs56 TK6 M5
  go_wp2_with fail
  (with_reducible refine P7.out.mono ?_)
  rintro e w7 ⟨rfl, hT7, ht7, hst7⟩
  have M7 := M6.out.turned27 ht7 (fun x hx => ⟨by have := HOF6.out x hx; have := HS5.out; have := M6.out.own 0 _ _ rfl; have := HG1X.out; omega, fun i o hi => by have := HOF6.out x hx; have := HS5.out; have := HG1X.out; rcases i with _ | _ | i <;> simp at hi <;> omega⟩)
  obtain ⟨G2, hG2⟩ : ∃ g, w6.heap.size + 2 = g := ⟨_, rfl⟩
  rw [hG2] at hst7
  have hG2l := lt_of_heap hst7
  have M7 := M7.more hst7 (by have := M6.out.below.size; omega) (fun i o hi => by have := HS5.out; have := HS56.out; have := HG1X.out; rcases i with _ | _ | i <;> simp at hi <;> omega)
  have M8 := Lib.hid (M7.alloc (.cells #[.int .i64 (a.r : Nat), .slice (some ⟨G2, 0, none⟩) n n, .bool ka] 81))
  have hT8 := hT7.below (below1 w7 (.cells #[.int .i64 (a.r : Nat), .slice (some ⟨G2, 0, none⟩) n n, .bool ka] 81))
  obtain ⟨X2, hX2⟩ : ∃ x, w7.heap.size = x := ⟨_, rfl⟩
  obtain ⟨W8, hW8⟩ : ∃ W, W = w7.alloc (.cells #[.int .i64 (a.r : Nat), .slice (some ⟨G2, 0, none⟩) n n, .bool ka] 81) := ⟨_, rfl⟩
  rw [← hW8] at M8 hT8
  rw [hX2] at M8
  have hs8 : W8.heap.size = X2 + 1 := by rw [hW8, World.size_alloc, hX2]
  have hs67 := ht7.size
  have P9 := sched_run a.r hT8 HTA.out (by omega) (by omega) c6 (some ⟨bq, off + k, none⟩) (m - k) (pc - k) (P.drop k) (by rw [List.length_drop]; have := EM.out; omega) (by omega) (fun x hx => HPI.out x (List.mem_of_mem_drop hx)) (HI22.out _ M8.out.below) (fun hk0 ad had hh => by
    have h1 := HOF6.out _ hh
    have h2 := HS5.out
    have h3 := M6.out.own 1 _ _ rfl
    obtain ⟨b', off', e', hb', _⟩ := Sl.pos HI.out (by have := EM.out; omega)
    cases e'
    cases had
    simp only at h1
    omega) (fun x hx ad had e => by have := HQB6.out ad had; omega)
  rw [← EB.out, ← EKB.out, hs8] at P9
  have P9 := Lib.hid P9
  have HS8 := Lib.hid hs8
  have HG2X : Hid (w6.heap.size + 2 = G2 ∧ G2 < X2) := ⟨hG2, by omega⟩
  clear hT7 ht7 hst7 hT8 P7 hG2l hs67 hs8 M6 M7
  rw [hG2]
  go_upto_region 10 with fail
  rw [← hW8]
  try rw [hX2]
  clear hG2 hW8 hX2
  go_wp2_with fail
  (with_reducible refine P9.out.mono ?_)
  rintro e w9 ⟨rfl, _, ht9, hst9⟩
  have M9 := M8.out.turned27 ht9 (fun x hx => ⟨by have := HOF6.out x hx; have := HS5.out; have := M8.out.own 1 _ _ rfl; omega, fun i o hi => by have := HOF6.out x hx; have := HLT6.out x hx; have := HS5.out; have := HG1X.out; have := HG2X.out; rcases i with _ | _ | _ | _ | i <;> simp at hi <;> omega⟩)
  obtain ⟨G3, hG3⟩ : ∃ g, X2 + 1 + 2 = g := ⟨_, rfl⟩
  rw [hG3] at hst9
  have hG3l := lt_of_heap hst9
  have M9 := M9.more hst9 (by have := M8.out.own 3 _ _ rfl; omega) (fun i o hi => by have := HS5.out; have := HS56.out; have := HG1X.out; have := HG2X.out; rcases i with _ | _ | _ | _ | i <;> simp at hi <;> omega)
  have M10 := Lib.hid (M9.alloc (.cells #[.int .i64 (b.r : Nat), .slice (some ⟨G3, 0, none⟩) n n, .bool kb] 81))
  obtain ⟨X3, hX3⟩ : ∃ x, w9.heap.size = x := ⟨_, rfl⟩
  obtain ⟨W10, hW10⟩ : ∃ W, W = w9.alloc (.cells #[.int .i64 (b.r : Nat), .slice (some ⟨G3, 0, none⟩) n n, .bool kb] 81) := ⟨_, rfl⟩
  rw [← hW10, hX3] at M10
  have M10 : Hid (Mem w W10 [(G1, .cells (intRow s.st) 3 (0, 0)), (X1, .cells #[.int .i64 (s.r : Nat), .slice (some ⟨G1, 0, none⟩) n n, .bool ks] 81), (G2, .cells (intRow a.st) 3 (0, 0)), (X2, .cells #[.int .i64 (a.r : Nat), .slice (some ⟨G2, 0, none⟩) n n, .bool ka] 81), (G3, .cells (intRow b.st) 3 (0, 0)), (X3, .cells #[.int .i64 (b.r : Nat), .slice (some ⟨G3, 0, none⟩) n n, .bool kb] 81)]) := M10
  clear M9 ht9 hst9 P9 hG3l
  rw [hG3]
  go_upto_region 11 with fail
  rw [← hW10]
  try rw [hX3]
  clear hG3 hW10 hX3 M8
  have HB := Lib.hid M10.out.below
  have s0 := M10.out.cell 1 0 rfl rfl
  have s1 := M10.out.cell 1 1 rfl rfl
  have a0 := M10.out.cell 3 0 rfl rfl
  have a1 := M10.out.cell 3 1 rfl rfl
  have b0 := M10.out.cell 5 0 rfl rfl
  have b1 := M10.out.cell 5 1 rfl rfl
  cases hst : a.stop with
  | true =>
    have h1 := HUA.out.2 hst
    have h2 := HSTY.out hst
    have d1 : decide ((a.r : Int) < (k : Int)) = true := decide_eq_true (by omega)
    have h3 : s.r = a.r := by rw [h2]
    rw [h3] at s0
    clear h2 h3 s1 a1 b0 b1
    go_wp2
    go_ret
    exact ⟨rfl, HB.out⟩
  | false =>
    have h1 := HUA.out.1 hst
    have hpt := HPT.out hst
    have d1 : decide ((a.r : Int) < (k : Int)) = false := decide_eq_false (by omega)
    have HRS : Hid ((a.r : Int) + (b.r : Int) = (s.r : Int)) := by have := hpt.2.1; show _ = _; omega
    have HPP := Lib.hid hpt.2.2.2
    have HBD := Lib.hid (Tk.sum_bd s.st m HGM.out.2.2.2)
    have hlen := HGM.out.2.1
    have hlenA := HGA.out.2.1
    have hlenB := HGB.out.2.1
    clear hpt s0 b0 hst
    go_wp2
    go_loopw [15, 87] (fun t i wr => ∃ j : Nat, j ≤ n ∧ i = .int .i64 (j : Nat) ∧ t = .int .i64 ((s.st.take j).sum) ∧ Mem w wr [(G1, .cells (intRow s.st) 3 (0, 0)), (X1, .cells #[.int .i64 (s.r : Nat), .slice (some ⟨G1, 0, none⟩) n n, .bool ks] 81), (G2, .cells (intRow a.st) 3 (0, 0)), (X2, .cells #[.int .i64 (a.r : Nat), .slice (some ⟨G2, 0, none⟩) n n, .bool ka] 81), (G3, .cells (intRow b.st) 3 (0, 0)), (X3, .cells #[.int .i64 (b.r : Nat), .slice (some ⟨G3, 0, none⟩) n n, .bool kb] 81)]) (fun _ i _ => n - (intOf i).toNat)
    case atStart => exact ⟨0, by omega, rfl, by simp, M10.out⟩
    case round =>
      obtain ⟨j, hj, rfl, rfl, hM⟩ := hrel
      clear M10 s1 a1 b1 a0
      by_cases hlt : j < n
      · have e1 := hM.cell 0 j rfl (intRow_get s.st j (by omega))
        have e2 := hM.cell 2 j rfl (intRow_get a.st j (by omega))
        have e3 := hM.cell 4 j rfl (intRow_get b.st j (by omega))
        have a1 := hM.cell 3 1 rfl rfl
        have b1 := hM.cell 5 1 rfl rfl
        have hpj := HPP.out j hlt
        have hst := Tk.sum_take s.st j (by omega)
        have hbd := HBD.out j (by omega)
        have hbd2 := HBD.out (j + 1) (by omega)
        have ha := HGA.out.2.2.2 j
        have hbb := HGB.out.2.2.2 j
        have hss := HGM.out.2.2.2 j
        obtain ⟨sv, esv⟩ : ∃ v, v = s.st[j]?.getD 0 := ⟨_, rfl⟩
        obtain ⟨av, eav⟩ : ∃ v, v = a.st[j]?.getD 0 := ⟨_, rfl⟩
        obtain ⟨bv, ebv⟩ : ∃ v, v = b.st[j]?.getD 0 := ⟨_, rfl⟩
        obtain ⟨t0, et0⟩ : ∃ v, v = (s.st.take j).sum := ⟨_, rfl⟩
        rw [← esv] at e1 hpj hst hss
        rw [← eav] at e2 hpj ha
        rw [← ebv] at e3 hpj hbb
        rw [← et0] at hst hbd ⊢
        have hjm : ((j : Nat) : Int) * m ≤ 2000 := by
          have : (j : Int) * m ≤ 12 * 100 := Int.mul_le_mul (by omega) (by omega) (by omega) (by omega)
          omega
        have hab : av + bv = sv := hpj.symm
        have HST := Lib.hid hst
        have MM := Lib.hid hM
        have hjn : (j : Int) < n := by omega
        clear hpj hst hM esv eav ebv et0 hbd2
        go_wp2_with fail
        go_quiet (fail)
        go_wp2
        exact ⟨⟨j + 1, by omega, by go_num, by rw [HST.out], MM.out.drewN _⟩, by simp [intOf]; omega⟩
      · obtain rfl : j = n := by omega
        have hfin : (s.st.take j).sum = (s.r : Nat) := by rw [← hlen, List.take_length]; exact HSUM.out
        rw [hfin]
        have s0 := hM.cell 1 0 rfl rfl
        have a0 := hM.cell 3 0 rfl rfl
        have b0 := hM.cell 5 0 rfl rfl
        have HB2 := Lib.hid hM.below
        have hrs := HRS.out
        obtain ⟨sr, esr⟩ : ∃ x, x = s.r := ⟨_, rfl⟩
        obtain ⟨ar, ear⟩ : ∃ x, x = a.r := ⟨_, rfl⟩
        obtain ⟨br, ebr⟩ : ∃ x, x = b.r := ⟨_, rfl⟩
        have hbm := HGB.out.1
        rw [← esr] at s0 hrs ⊢
        rw [← ear] at a0 hrs har
        rw [← ebr] at b0 hrs hbm
        clear hfin hM esr ear ebr
        go_wp2
        go_ret
        exact ⟨rfl, HB2.out⟩
set_option maxHeartbeats 8000000 in
set_option maxRecDepth 100000 in
theorem schedParts_in0 (bq off : Nat) (k : Nat) (ek : k = cut % (m + 1)) (hpk : True) (hl : ∀ a ∈ l, a.In) (hP : ∀ x ∈ P, I64 x) (hpc : m ≤ k) (hs : Toys w q l) (en : l.length = n) (em : P.length = m) (hc : cut < 256) (hi : Ints .i64 w (some ⟨bq, off, none⟩) P) (hf : Tk.few l m = true) :
    Calls Try.prog 10 #[.slice q n cap, .slice (some ⟨bq, off, none⟩) m k, .int .u8 cut] w fun e w' => e = .returned (.bool true) ∧ Below w.heap.size w w' := by
  obtain ⟨hn, hm100, hph⟩ := Tk.few_of hf
  have FW := fun W h => law27_few q n cap l en (by omega) (some ⟨bq, off, none⟩) m k (by omega) W h
  rw [hf] at FW
  have FW := Lib.hid FW
  rw [en] at hn hph
  have hT : ∀ i, i < n → (l[i]?.getD default).In ∧ 0 ≤ (l[i]?.getD default).phase ∧ (l[i]?.getD default).phase ≤ 1000 := fun i hi => ⟨by rw [List.getElem?_eq_getElem (by omega)]; exact hl _ (List.getElem_mem _), (hph i hi).1, (hph i hi).2.1⟩
  have hkm : k ≤ m := by have := Nat.mod_lt cut (show 0 < m + 1 by omega); omega
  have hki : (cut : Int) % ((m : Int) + 1) = (k : Nat) := by rw [ek, Int.natCast_emod, Int.natCast_add]; rfl
  have TK := Lib.hid (fun W h => law27_tasks q n cap l en (by omega) W h)
  have HS := Lib.hid hs
  have HT := Lib.hid hT
  have HPI := Lib.hid hP
  have HI := Lib.hid hi
  have hi1 : ∀ W, Below w.heap.size w W → Ints .i64 W (some ⟨bq, off, none⟩) (P.take k) := fun W hb => Ints.take (Sl.below hi hb) k
  have hi2 : ∀ W, Below w.heap.size w W → Ints .i64 W (some ⟨bq, off, none⟩) (P.drop k) := fun W _ => .inl (by rw [List.length_drop]; omega)
  have HI1 := Lib.hid hi1
  have HI22 := Lib.hid hi2
  have EM := Lib.hid em
  have hg := Tk.good (n := n) (u0 := 0) (T := fun i => l[i]?.getD default) hT P k
  have hgm := Tk.good (n := n) (u0 := 0) (T := fun i => l[i]?.getD default) hT P m
  have hTa : ∀ i, i < n → ((Tk.at n 0 (fun i => l[i]?.getD default) P k).T i).In ∧ 0 ≤ ((Tk.at n 0 (fun i => l[i]?.getD default) P k).T i).phase ∧ ((Tk.at n 0 (fun i => l[i]?.getD default) P k).T i).phase ≤ 1000 := fun i hi => ⟨(hg.2.2.1 i hi).1, (hg.2.2.1 i hi).2.1, (hg.2.2.1 i hi).2.2.1⟩
  have hcg := Tk.at_congr (n := n) (u0 := 0) (T := fun i => l[i]?.getD default) (P := P.take k) (Q := P) k (fun i hi => by rw [List.getElem?_take_of_lt hi])
  have hua := Tk.used_all (n := n) (u0 := 0) (T := fun i => l[i]?.getD default) (P := P) k
  have hsty := fun h => Tk.stays (n := n) (u0 := 0) (T := fun i => l[i]?.getD default) (P := P) (k := k) h 0
  have hpt := fun h => Tk.parts hT k h 0 (P := P)
  have hsum := Tk.sum_st (u0 := 0) hT P m
  rw [show k + 0 = m by omega] at hsty
  simp only [show k + 0 = m by omega] at hpt
  have hgb := Tk.good (n := n) (u0 := ((Tk.at n 0 (fun i => l[i]?.getD default) P k).r : Nat)) hTa (P.drop k) 0
  obtain ⟨s, es⟩ : ∃ s, s = Tk.at n 0 (fun i => l[i]?.getD default) P m := ⟨_, rfl⟩
  obtain ⟨a, ea⟩ : ∃ s, s = Tk.at n 0 (fun i => l[i]?.getD default) P k := ⟨_, rfl⟩
  simp only [← es] at hsty hpt hsum hgm
  simp only [← ea] at hg hTa hcg hua hsty hpt hgb
  obtain ⟨b, eb⟩ : ∃ s, s = Tk.at n (a.r : Nat) a.T (P.drop k) 0 := ⟨_, rfl⟩
  simp only [← eb] at hpt hgb
  obtain ⟨ks, eks⟩ : ∃ x, x = Tk.stuck n s.T (s.r : Nat) := ⟨_, rfl⟩
  obtain ⟨ka, eka⟩ : ∃ x, x = Tk.stuck n a.T (a.r : Nat) := ⟨_, rfl⟩
  obtain ⟨kb, ekb⟩ : ∃ x, x = Tk.stuck n b.T ((a.r : Nat) + (b.r : Nat) : Int) := ⟨_, rfl⟩
  have ES := Lib.hid es
  have EB := Lib.hid eb
  have HCG := Lib.hid hcg
  have EKS := Lib.hid eks
  have EKA := Lib.hid eka
  have EKB := Lib.hid ekb
  have HTA := Lib.hid hTa
  have HUA := Lib.hid hua
  have HSTY := Lib.hid hsty
  have HPT := Lib.hid hpt
  have HSUM := Lib.hid hsum
  have HGM := Lib.hid hgm
  have HGA := Lib.hid hg
  have HGB := Lib.hid hgb
  have har : a.r ≤ k := hg.1
  clear hf hs hl hph hT hP hi hi1 hi2 en em ek es ea eb eks eka ekb hTa hcg hua hsty hpt hsum hg hgm hgb
  go_enter Try.func10, Try.ntmps10
  go_wp2_with fail
  (with_reducible refine (awake27 _).mono ?_)
  rintro e w1 ⟨rfl, hb1⟩
  have B1 := Lib.hid hb1
  clear hb1
  go_wp2_with fail
  (with_reducible refine (FW.out _ (HS.out.below B1.out)).mono ?_)
  rintro e w2 ⟨rfl, hb2⟩
  have B2 := Lib.hid (B1.out.trans (hb2.mono B1.out.size))
  clear hb2
  go_wp2_with fail
  (with_reducible refine (TK.out _ (HS.out.below B2.out)).mono ?_)
  rintro e w3 ⟨p3, c3, b3, rfl, hM3⟩
  obtain ⟨hT3, hof3, hqb3⟩ := hM3.tasks
  have B3 := Lib.hid (B2.out.trans (hM3.below.mono B2.out.size))
  have P4 := sched_run 0 hT3 HT.out (by omega) (by omega) c3 (some ⟨bq, off, none⟩) m k P EM.out (by omega) HPI.out (Sl.below HI.out B3.out) (fun hm0 ad had hh => by
    have h1 := hof3 _ hh
    have h2 := B2.out.size
    obtain ⟨b', off', e', hb', _⟩ := Sl.pos HI.out (by have := EM.out; omega)
    rw [e'] at had
    cases had
    simp only at h1
    omega) (fun x hx ad had e => by have := hqb3 ad had; omega)
  rw [show ((0 : Nat) : Int) = 0 from rfl, ← ES.out] at P4
  simp only [Int.zero_add] at P4
  rw [← EKS.out] at P4
  have P4 := Lib.hid P4
  have HOF := Lib.hid hof3
  have HS23 := Lib.hid hM3.below.size
  clear hM3 hT3 hof3 hqb3
  go_wp2_with fail
  (with_reducible refine P4.out.mono ?_)
  rintro e w4 ⟨rfl, _, ht4, hst4⟩
  have B4 := (B3.out.trans ((ht4.below HOF.out HS23.out).mono B2.out.size))
  have hs3 := B3.out.size
  have hs34 := ht4.size
  obtain ⟨G1, hG1⟩ : ∃ g, w3.heap.size + 2 = g := ⟨_, rfl⟩
  rw [hG1] at hst4
  have hG1l := lt_of_heap hst4
  have M4 := (⟨B4, fun _ _ _ h => by simp at h, fun _ _ _ _ _ h => by simp at h, fun _ _ _ h => by simp at h⟩ : Mem w w4 []).more hst4 (by omega) (fun i o h => by simp at h)
  have M5 := Lib.hid (M4.alloc (.cells #[.int .i64 (s.r : Nat), .slice (some ⟨G1, 0, none⟩) n n, .bool ks] 81))
  obtain ⟨X1, hX1⟩ : ∃ x, w4.heap.size = x := ⟨_, rfl⟩
  obtain ⟨W5, hW5⟩ : ∃ W, W = w4.alloc (.cells #[.int .i64 (s.r : Nat), .slice (some ⟨G1, 0, none⟩) n n, .bool ks] 81) := ⟨_, rfl⟩
  rw [← hW5, hX1] at M5
  have hs5 : W5.heap.size = X1 + 1 := by rw [hW5, World.size_alloc, hX1]
  have HS5 := Lib.hid hs5
  have HG1X : Hid (G1 < X1) := by show _ < _; omega
  have TK6 := Lib.hid (TK.out _ (HS.out.below M5.out.below))
  clear B4 M4 ht4 hst4 P4 HOF hG1l hs34 hs3 hs5
  rw [hG1]
  go_upto_region 8 with fail
  rw [← hW5]
  try rw [hX1]
  clear hG1 hW5 hX1
  go_wp2_with fail
  (with_reducible refine TK6.out.mono ?_)
  rintro e w6 ⟨p6, c6, b6, rfl, hM6⟩
  obtain ⟨hT6, hof6, hqb6⟩ := hM6.tasks
  have M6 := Lib.hid (M5.out.call hM6.below)
  have hlt6 := hT6.lt
  have hs56 := hM6.below.size
  have P7 := sched_run 0 hT6 HT.out (by omega) (by omega) c6 (some ⟨bq, off, none⟩) k k (P.take k) (by rw [List.length_take]; have := EM.out; omega) (by omega) (fun x hx => HPI.out x (List.mem_of_mem_take hx)) (HI1.out _ M6.out.below) (fun hk0 ad had hh => by
    have h1 := hof6 _ hh
    have h2 := M5.out.below.size
    obtain ⟨b', off', e', hb', _⟩ := Sl.pos HI.out (by have := EM.out; omega)
    rw [e'] at had
    cases had
    simp only at h1
    omega) (fun x hx ad had e => by have := hqb6 ad had; omega)
  rw [show ((0 : Nat) : Int) = 0 from rfl, HCG.out] at P7
  simp only [Int.zero_add] at P7
  rw [← EKA.out] at P7
  have P7 := Lib.hid P7
  have HOF6 := Lib.hid hof6
  have HLT6 := Lib.hid hlt6
  have HQB6 := Lib.hid hqb6
  have HS56 := Lib.hid hs56
  clear hM6 hT6 hof6 hqb6 hlt6 hs56 TK6 M5
  go_wp2_with fail
  (with_reducible refine P7.out.mono ?_)
  rintro e w7 ⟨rfl, hT7, ht7, hst7⟩
  have M7 := M6.out.turned27 ht7 (fun x hx => ⟨by have := HOF6.out x hx; have := HS5.out; have := M6.out.own 0 _ _ rfl; have := HG1X.out; omega, fun i o hi => by have := HOF6.out x hx; have := HS5.out; have := HG1X.out; rcases i with _ | _ | i <;> simp at hi <;> omega⟩)
  obtain ⟨G2, hG2⟩ : ∃ g, w6.heap.size + 2 = g := ⟨_, rfl⟩
  rw [hG2] at hst7
  have hG2l := lt_of_heap hst7
  have M7 := M7.more hst7 (by have := M6.out.below.size; omega) (fun i o hi => by have := HS5.out; have := HS56.out; have := HG1X.out; rcases i with _ | _ | i <;> simp at hi <;> omega)
  have M8 := Lib.hid (M7.alloc (.cells #[.int .i64 (a.r : Nat), .slice (some ⟨G2, 0, none⟩) n n, .bool ka] 81))
  have hT8 := hT7.below (below1 w7 (.cells #[.int .i64 (a.r : Nat), .slice (some ⟨G2, 0, none⟩) n n, .bool ka] 81))
  obtain ⟨X2, hX2⟩ : ∃ x, w7.heap.size = x := ⟨_, rfl⟩
  obtain ⟨W8, hW8⟩ : ∃ W, W = w7.alloc (.cells #[.int .i64 (a.r : Nat), .slice (some ⟨G2, 0, none⟩) n n, .bool ka] 81) := ⟨_, rfl⟩
  rw [← hW8] at M8 hT8
  rw [hX2] at M8
  have hs8 : W8.heap.size = X2 + 1 := by rw [hW8, World.size_alloc, hX2]
  have hs67 := ht7.size
  have P9 := sched_run a.r hT8 HTA.out (by omega) (by omega) c6 (some ⟨bq, off, none⟩) 0 0 (P.drop k) (by rw [List.length_drop]; have := EM.out; omega) (by omega) (fun x hx => HPI.out x (List.mem_of_mem_drop hx)) (HI22.out _ M8.out.below) (fun hk0 ad had hh => by
    have h1 := HOF6.out _ hh
    have h2 := HS5.out
    have h3 := M6.out.own 1 _ _ rfl
    obtain ⟨b', off', e', hb', _⟩ := Sl.pos HI.out (by have := EM.out; omega)
    cases e'
    cases had
    simp only at h1
    omega) (fun x hx ad had e => by have := HQB6.out ad had; omega)
  rw [← EB.out, ← EKB.out, hs8] at P9
  have P9 := Lib.hid P9
  have HS8 := Lib.hid hs8
  have HG2X : Hid (w6.heap.size + 2 = G2 ∧ G2 < X2) := ⟨hG2, by omega⟩
  clear hT7 ht7 hst7 hT8 P7 hG2l hs67 hs8 M6 M7
  rw [hG2]
  go_upto_region 10 with fail
  rw [← hW8]
  try rw [hX2]
  clear hG2 hW8 hX2
  go_wp2_with fail
  (with_reducible refine P9.out.mono ?_)
  rintro e w9 ⟨rfl, _, ht9, hst9⟩
  have M9 := M8.out.turned27 ht9 (fun x hx => ⟨by have := HOF6.out x hx; have := HS5.out; have := M8.out.own 1 _ _ rfl; omega, fun i o hi => by have := HOF6.out x hx; have := HLT6.out x hx; have := HS5.out; have := HG1X.out; have := HG2X.out; rcases i with _ | _ | _ | _ | i <;> simp at hi <;> omega⟩)
  obtain ⟨G3, hG3⟩ : ∃ g, X2 + 1 + 2 = g := ⟨_, rfl⟩
  rw [hG3] at hst9
  have hG3l := lt_of_heap hst9
  have M9 := M9.more hst9 (by have := M8.out.own 3 _ _ rfl; omega) (fun i o hi => by have := HS5.out; have := HS56.out; have := HG1X.out; have := HG2X.out; rcases i with _ | _ | _ | _ | i <;> simp at hi <;> omega)
  have M10 := Lib.hid (M9.alloc (.cells #[.int .i64 (b.r : Nat), .slice (some ⟨G3, 0, none⟩) n n, .bool kb] 81))
  obtain ⟨X3, hX3⟩ : ∃ x, w9.heap.size = x := ⟨_, rfl⟩
  obtain ⟨W10, hW10⟩ : ∃ W, W = w9.alloc (.cells #[.int .i64 (b.r : Nat), .slice (some ⟨G3, 0, none⟩) n n, .bool kb] 81) := ⟨_, rfl⟩
  rw [← hW10, hX3] at M10
  have M10 : Hid (Mem w W10 [(G1, .cells (intRow s.st) 3 (0, 0)), (X1, .cells #[.int .i64 (s.r : Nat), .slice (some ⟨G1, 0, none⟩) n n, .bool ks] 81), (G2, .cells (intRow a.st) 3 (0, 0)), (X2, .cells #[.int .i64 (a.r : Nat), .slice (some ⟨G2, 0, none⟩) n n, .bool ka] 81), (G3, .cells (intRow b.st) 3 (0, 0)), (X3, .cells #[.int .i64 (b.r : Nat), .slice (some ⟨G3, 0, none⟩) n n, .bool kb] 81)]) := M10
  clear M9 ht9 hst9 P9 hG3l
  rw [hG3]
  go_upto_region 11 with fail
  rw [← hW10]
  try rw [hX3]
  clear hG3 hW10 hX3 M8
  have HB := Lib.hid M10.out.below
  have s0 := M10.out.cell 1 0 rfl rfl
  have s1 := M10.out.cell 1 1 rfl rfl
  have a0 := M10.out.cell 3 0 rfl rfl
  have a1 := M10.out.cell 3 1 rfl rfl
  have b0 := M10.out.cell 5 0 rfl rfl
  have b1 := M10.out.cell 5 1 rfl rfl
  cases hst : a.stop with
  | true =>
    have h1 := HUA.out.2 hst
    have h2 := HSTY.out hst
    have d1 : decide ((a.r : Int) < (k : Int)) = true := decide_eq_true (by omega)
    have h3 : s.r = a.r := by rw [h2]
    rw [h3] at s0
    clear h2 h3 s1 a1 b0 b1
    go_wp2
    go_ret
    exact ⟨rfl, HB.out⟩
  | false =>
    have h1 := HUA.out.1 hst
    have hpt := HPT.out hst
    have d1 : decide ((a.r : Int) < (k : Int)) = false := decide_eq_false (by omega)
    have HRS : Hid ((a.r : Int) + (b.r : Int) = (s.r : Int)) := by have := hpt.2.1; show _ = _; omega
    have HPP := Lib.hid hpt.2.2.2
    have HBD := Lib.hid (Tk.sum_bd s.st m HGM.out.2.2.2)
    have hlen := HGM.out.2.1
    have hlenA := HGA.out.2.1
    have hlenB := HGB.out.2.1
    clear hpt s0 b0 hst
    go_wp2
    go_loopw [15, 87] (fun t i wr => ∃ j : Nat, j ≤ n ∧ i = .int .i64 (j : Nat) ∧ t = .int .i64 ((s.st.take j).sum) ∧ Mem w wr [(G1, .cells (intRow s.st) 3 (0, 0)), (X1, .cells #[.int .i64 (s.r : Nat), .slice (some ⟨G1, 0, none⟩) n n, .bool ks] 81), (G2, .cells (intRow a.st) 3 (0, 0)), (X2, .cells #[.int .i64 (a.r : Nat), .slice (some ⟨G2, 0, none⟩) n n, .bool ka] 81), (G3, .cells (intRow b.st) 3 (0, 0)), (X3, .cells #[.int .i64 (b.r : Nat), .slice (some ⟨G3, 0, none⟩) n n, .bool kb] 81)]) (fun _ i _ => n - (intOf i).toNat)
    case atStart => exact ⟨0, by omega, rfl, by simp, M10.out⟩
    case round =>
      obtain ⟨j, hj, rfl, rfl, hM⟩ := hrel
      clear M10 s1 a1 b1 a0
      by_cases hlt : j < n
      · have e1 := hM.cell 0 j rfl (intRow_get s.st j (by omega))
        have e2 := hM.cell 2 j rfl (intRow_get a.st j (by omega))
        have e3 := hM.cell 4 j rfl (intRow_get b.st j (by omega))
        have a1 := hM.cell 3 1 rfl rfl
        have b1 := hM.cell 5 1 rfl rfl
        have hpj := HPP.out j hlt
        have hst := Tk.sum_take s.st j (by omega)
        have hbd := HBD.out j (by omega)
        have hbd2 := HBD.out (j + 1) (by omega)
        have ha := HGA.out.2.2.2 j
        have hbb := HGB.out.2.2.2 j
        have hss := HGM.out.2.2.2 j
        obtain ⟨sv, esv⟩ : ∃ v, v = s.st[j]?.getD 0 := ⟨_, rfl⟩
        obtain ⟨av, eav⟩ : ∃ v, v = a.st[j]?.getD 0 := ⟨_, rfl⟩
        obtain ⟨bv, ebv⟩ : ∃ v, v = b.st[j]?.getD 0 := ⟨_, rfl⟩
        obtain ⟨t0, et0⟩ : ∃ v, v = (s.st.take j).sum := ⟨_, rfl⟩
        rw [← esv] at e1 hpj hst hss
        rw [← eav] at e2 hpj ha
        rw [← ebv] at e3 hpj hbb
        rw [← et0] at hst hbd ⊢
        have hjm : ((j : Nat) : Int) * m ≤ 2000 := by
          have : (j : Int) * m ≤ 12 * 100 := Int.mul_le_mul (by omega) (by omega) (by omega) (by omega)
          omega
        have hab : av + bv = sv := hpj.symm
        have HST := Lib.hid hst
        have MM := Lib.hid hM
        have hjn : (j : Int) < n := by omega
        clear hpj hst hM esv eav ebv et0 hbd2
        go_wp2_with fail
        go_quiet (fail)
        go_wp2
        exact ⟨⟨j + 1, by omega, by go_num, by rw [HST.out], MM.out.drewN _⟩, by simp [intOf]; omega⟩
      · obtain rfl : j = n := by omega
        have hfin : (s.st.take j).sum = (s.r : Nat) := by rw [← hlen, List.take_length]; exact HSUM.out
        rw [hfin]
        have s0 := hM.cell 1 0 rfl rfl
        have a0 := hM.cell 3 0 rfl rfl
        have b0 := hM.cell 5 0 rfl rfl
        have HB2 := Lib.hid hM.below
        have hrs := HRS.out
        obtain ⟨sr, esr⟩ : ∃ x, x = s.r := ⟨_, rfl⟩
        obtain ⟨ar, ear⟩ : ∃ x, x = a.r := ⟨_, rfl⟩
        obtain ⟨br, ebr⟩ : ∃ x, x = b.r := ⟨_, rfl⟩
        have hbm := HGB.out.1
        rw [← esr] at s0 hrs ⊢
        rw [← ear] at a0 hrs har
        rw [← ebr] at b0 hrs hbm
        clear hfin hM esr ear ebr
        go_wp2
        go_ret
        exact ⟨rfl, HB2.out⟩
end
end Go.Proofs.Ytldhbgefpfmkmaa
