/- Layer 27: the law, walked: a run of some picks, and a run of the others behind it. -/
import Derived.Test.YtldhbgefpfmkmaaJLaws27c
namespace Go.Proofs.Ytldhbgefpfmkmaa
open Go.ChangeShapes Go.WideShapes Go.ChangeAt Go.RowKit

section
variable (q : Option Addr) (cap n : Nat) (l : List Toy) (en : l.length = n) (m : Nat) (P : List Int) (em : P.length = m) (pc : Nat) (cut : Nat) (hc : cut < 256) (w : World)
set_option maxHeartbeats 8000000 in
set_option maxRecDepth 100000 in
theorem schedParts_none (_x : Nat) (hl : ∀ a ∈ l, a.In) (hP : ∀ x ∈ P, I64 x) (hpc : 0 ≤ 0) (hs : Toys w q l) (en : l.length = n) (em : P.length = 0) (hc : cut < 256) (hi : Ints .i64 w none P) (hf : Tk.few l 0 = true) :
    Calls Try.prog 10 #[.slice q n cap, .slice none 0 0, .int .u8 cut] w fun e w' => e = .returned (.bool true) ∧ Below w.heap.size w w' := by
  obtain ⟨hn, hm100, hph⟩ := Tk.few_of hf
  have FW := fun W h => law27_few q n cap l en (by omega) none 0 0 (by omega) W h
  rw [hf] at FW
  have FW := Lib.hid FW
  rw [en] at hn hph
  have hT : ∀ i, i < n → (l[i]?.getD default).In ∧ 0 ≤ (l[i]?.getD default).phase ∧ (l[i]?.getD default).phase ≤ 1000 := fun i hi => ⟨by rw [List.getElem?_eq_getElem (by omega)]; exact hl _ (List.getElem_mem _), (hph i hi).1, (hph i hi).2.1⟩
  have hkm : 0 ≤ 0 := by have := Nat.mod_lt cut (show 0 < 0 + 1 by omega); omega
  have hki : (cut : Int) % ((0 : Int) + 1) = (0 : Nat) := by omega
  have TK := Lib.hid (fun W h => law27_tasks q n cap l en (by omega) W h)
  have HS := Lib.hid hs
  have HT := Lib.hid hT
  have HPI := Lib.hid hP
  have HI := Lib.hid hi
  have hi1 : ∀ W, Below w.heap.size w W → Ints .i64 W none (P.take 0) := fun W hb => Ints.take (Sl.below hi hb) 0
  have hi2 : ∀ W, Below w.heap.size w W → Ints .i64 W none (P.drop 0) := fun W _ => .inl (by rw [List.length_drop]; omega)
  have HI1 := Lib.hid hi1
  have HI22 := Lib.hid hi2
  have EM := Lib.hid em
  have hg := Tk.good (n := n) (u0 := 0) (T := fun i => l[i]?.getD default) hT P 0
  have hgm := Tk.good (n := n) (u0 := 0) (T := fun i => l[i]?.getD default) hT P 0
  have hTa : ∀ i, i < n → ((Tk.at n 0 (fun i => l[i]?.getD default) P 0).T i).In ∧ 0 ≤ ((Tk.at n 0 (fun i => l[i]?.getD default) P 0).T i).phase ∧ ((Tk.at n 0 (fun i => l[i]?.getD default) P 0).T i).phase ≤ 1000 := fun i hi => ⟨(hg.2.2.1 i hi).1, (hg.2.2.1 i hi).2.1, (hg.2.2.1 i hi).2.2.1⟩
  have hcg := Tk.at_congr (n := n) (u0 := 0) (T := fun i => l[i]?.getD default) (P := P.take 0) (Q := P) 0 (fun i hi => by rw [List.getElem?_take_of_lt hi])
  have hua := Tk.used_all (n := n) (u0 := 0) (T := fun i => l[i]?.getD default) (P := P) 0
  have hsty := fun h => Tk.stays (n := n) (u0 := 0) (T := fun i => l[i]?.getD default) (P := P) (k := 0) h 0
  have hpt := fun h => Tk.parts hT 0 h 0 (P := P)
  have hsum := Tk.sum_st (u0 := 0) hT P 0
  rw [show 0 + 0 = 0 by omega] at hsty
  simp only [show 0 + 0 = 0 by omega] at hpt
  have hgb := Tk.good (n := n) (u0 := ((Tk.at n 0 (fun i => l[i]?.getD default) P 0).r : Nat)) hTa (P.drop 0) 0
  obtain ⟨s, es⟩ : ∃ s, s = Tk.at n 0 (fun i => l[i]?.getD default) P 0 := ⟨_, rfl⟩
  obtain ⟨a, ea⟩ : ∃ s, s = Tk.at n 0 (fun i => l[i]?.getD default) P 0 := ⟨_, rfl⟩
  simp only [← es] at hsty hpt hsum hgm
  simp only [← ea] at hg hTa hcg hua hsty hpt hgb
  obtain ⟨b, eb⟩ : ∃ s, s = Tk.at n (a.r : Nat) a.T (P.drop 0) 0 := ⟨_, rfl⟩
  simp only [← eb] at hgb
  have hsty : a.stop = true → s = a := fun _ => es.trans ea.symm
  have hpt : a.stop = false → s.T = b.T ∧ s.r = a.r + b.r ∧ s.stop = b.stop ∧ ∀ i, i < n → s.st[i]?.getD 0 = a.st[i]?.getD 0 + b.st[i]?.getD 0 := fun h => by rw [ea] at h; have h2 := Tk.parts hT 0 h 0 (P := P); rw [es, eb, ea]; exact h2
  obtain ⟨ks, eks⟩ : ∃ x, x = Tk.stuck n s.T (s.r : Nat) := ⟨_, rfl⟩
  obtain ⟨ka, eka⟩ : ∃ x, x = Tk.stuck n a.T (a.r : Nat) := ⟨_, rfl⟩
  obtain ⟨kb, ekb⟩ : ∃ x, x = Tk.stuck n b.T ((a.r : Nat) + (b.r : Nat) : Int) := ⟨_, rfl⟩
  have ES := Lib.hid es
  have EB := Lib.hid eb
  have HCG := Lib.hid hcg
  have EKS := Lib.hid eks
  have EKA := Lib.hid eka
  have EKB := Lib.hid ekb
  have HTA := Lib.hid hTa
  have HUA := Lib.hid hua
  have HSTY := Lib.hid hsty
  have HPT := Lib.hid hpt
  have HSUM := Lib.hid hsum
  have HGM := Lib.hid hgm
  have HGA := Lib.hid hg
  have HGB := Lib.hid hgb
  have har : a.r ≤ 0 := hg.1
  clear hf hs hl hph hT hP hi hi1 hi2 en em es ea eb eks eka ekb hTa hcg hua hsty hpt hsum hg hgm hgb
  go_enter Try.func10, Try.ntmps10
  go_wp2_with fail
  (with_reducible refine (awake27 _).mono ?_)
  rintro e w1 ⟨rfl, hb1⟩
  have B1 := Lib.hid hb1
  clear hb1
  go_wp2_with fail
  (with_reducible refine (FW.out _ (HS.out.below B1.out)).mono ?_)
  rintro e w2 ⟨rfl, hb2⟩
  have B2 := Lib.hid (B1.out.trans (hb2.mono B1.out.size))
  clear hb2
  go_wp2_with fail
  (with_reducible refine (TK.out _ (HS.out.below B2.out)).mono ?_)
  rintro e w3 ⟨p3, c3, b3, rfl, hM3⟩
  obtain ⟨hT3, hof3, hqb3⟩ := hM3.tasks
  have B3 := Lib.hid (B2.out.trans (hM3.below.mono B2.out.size))
  have P4 := sched_run 0 hT3 HT.out (by omega) (by omega) c3 none 0 0 P EM.out (by omega) HPI.out (Sl.below HI.out B3.out) (fun hm0 ad had hh => by
    have h1 := hof3 _ hh
    have h2 := B2.out.size
    obtain ⟨b', off', e', hb', _⟩ := Sl.pos HI.out (by have := EM.out; omega)
    rw [e'] at had
    cases had
    simp only at h1
    omega) (fun x hx ad had e => by have := hqb3 ad had; omega)
  rw [show ((0 : Nat) : Int) = 0 from rfl, ← ES.out] at P4
  simp only [Int.zero_add] at P4
  rw [← EKS.out] at P4
  have P4 := Lib.hid P4
  have HOF := Lib.hid hof3
  have HS23 := Lib.hid hM3.below.size
  clear hM3 hT3 hof3 hqb3
  go_wp2_with fail
  (with_reducible refine P4.out.mono ?_)
  rintro e w4 ⟨rfl, _, ht4, hst4⟩
  have B4 := (B3.out.trans ((ht4.below HOF.out HS23.out).mono B2.out.size))
  have hs3 := B3.out.size
  have hs34 := ht4.size
  obtain ⟨G1, hG1⟩ : ∃ g, w3.heap.size + 2 = g := ⟨_, rfl⟩
  rw [hG1] at hst4
  have hG1l := lt_of_heap hst4
  have M4 := (⟨B4, fun _ _ _ h => by simp at h, fun _ _ _ _ _ h => by simp at h, fun _ _ _ h => by simp at h⟩ : Mem w w4 []).more hst4 (by omega) (fun i o h => by simp at h)
  have M5 := Lib.hid (M4.alloc (.cells #[.int .i64 (s.r : Nat), .slice (some ⟨G1, 0, none⟩) n n, .bool ks] 81))
  obtain ⟨X1, hX1⟩ : ∃ x, w4.heap.size = x := ⟨_, rfl⟩
  obtain ⟨W5, hW5⟩ : ∃ W, W = w4.alloc (.cells #[.int .i64 (s.r : Nat), .slice (some ⟨G1, 0, none⟩) n n, .bool ks] 81) := ⟨_, rfl⟩
  rw [← hW5, hX1] at M5
  have hs5 : W5.heap.size = X1 + 1 := by rw [hW5, World.size_alloc, hX1]
  have HS5 := Lib.hid hs5
  have HG1X : Hid (G1 < X1) := by show _ < _; omega
  have TK6 := Lib.hid (TK.out _ (HS.out.below M5.out.below))
  clear B4 M4 ht4 hst4 P4 HOF hG1l hs34 hs3 hs5
  rw [hG1]
  go_upto_region 8 with fail
  rw [← hW5]
  try rw [hX1]
  clear hG1 hW5 hX1
  go_wp2_with fail
  (with_reducible refine TK6.out.mono ?_)
  rintro e w6 ⟨p6, c6, b6, rfl, hM6⟩
  obtain ⟨hT6, hof6, hqb6⟩ := hM6.tasks
  have M6 := Lib.hid (M5.out.call hM6.below)
  have hlt6 := hT6.lt
  have hs56 := hM6.below.size
  have P7 := sched_run 0 hT6 HT.out (by omega) (by omega) c6 none 0 0 (P.take 0) (by rw [List.length_take]; have := EM.out; omega) (by omega) (fun x hx => HPI.out x (List.mem_of_mem_take hx)) (HI1.out _ M6.out.below) (fun hk0 ad had hh => by
    have h1 := hof6 _ hh
    have h2 := M5.out.below.size
    obtain ⟨b', off', e', hb', _⟩ := Sl.pos HI.out (by have := EM.out; omega)
    rw [e'] at had
    cases had
    simp only at h1
    omega) (fun x hx ad had e => by have := hqb6 ad had; omega)
  rw [show ((0 : Nat) : Int) = 0 from rfl, HCG.out] at P7
  simp only [Int.zero_add] at P7
  rw [← EKA.out] at P7
  have P7 := Lib.hid P7
  have HOF6 := Lib.hid hof6
  have HLT6 := Lib.hid hlt6
  have HQB6 := Lib.hid hqb6
  have HS56 := Lib.hid hs56
  clear hM6 hT6 hof6 hqb6 hlt6 hs56 TK6 M5
  go_wp2_with fail
  (with_reducible refine P7.out.mono ?_)
  rintro e w7 ⟨rfl, hT7, ht7, hst7⟩
  have M7 := M6.out.turned27 ht7 (fun x hx => ⟨by have := HOF6.out x hx; have := HS5.out; have := M6.out.own 0 _ _ rfl; have := HG1X.out; omega, fun i o hi => by have := HOF6.out x hx; have := HS5.out; have := HG1X.out; rcases i with _ | _ | i <;> simp at hi <;> omega⟩)
  obtain ⟨G2, hG2⟩ : ∃ g, w6.heap.size + 2 = g := ⟨_, rfl⟩
  rw [hG2] at hst7
  have hG2l := lt_of_heap hst7
  have M7 := M7.more hst7 (by have := M6.out.below.size; omega) (fun i o hi => by have := HS5.out; have := HS56.out; have := HG1X.out; rcases i with _ | _ | i <;> simp at hi <;> omega)
  have M8 := Lib.hid (M7.alloc (.cells #[.int .i64 (a.r : Nat), .slice (some ⟨G2, 0, none⟩) n n, .bool ka] 81))
  have hT8 := hT7.below (below1 w7 (.cells #[.int .i64 (a.r : Nat), .slice (some ⟨G2, 0, none⟩) n n, .bool ka] 81))
  obtain ⟨X2, hX2⟩ : ∃ x, w7.heap.size = x := ⟨_, rfl⟩
  obtain ⟨W8, hW8⟩ : ∃ W, W = w7.alloc (.cells #[.int .i64 (a.r : Nat), .slice (some ⟨G2, 0, none⟩) n n, .bool ka] 81) := ⟨_, rfl⟩
  rw [← hW8] at M8 hT8
  rw [hX2] at M8
  have hs8 : W8.heap.size = X2 + 1 := by rw [hW8, World.size_alloc, hX2]
  have hs67 := ht7.size
  have P9 := sched_run a.r hT8 HTA.out (by omega) (by omega) c6 none 0 0 (P.drop 0) (by rw [List.length_drop]; have := EM.out; omega) (by omega) (fun x hx => HPI.out x (List.mem_of_mem_drop hx)) (HI22.out _ M8.out.below) (fun hk0 ad had hh => by
    have h1 := HOF6.out _ hh
    have h2 := HS5.out
    have h3 := M6.out.own 1 _ _ rfl
    obtain ⟨b', off', e', hb', _⟩ := Sl.pos HI.out (by have := EM.out; omega)
    omega) (fun x hx ad had e => by have := HQB6.out ad had; omega)
  rw [← EB.out, ← EKB.out, hs8] at P9
  have P9 := Lib.hid P9
  have HS8 := Lib.hid hs8
  have HG2X : Hid (w6.heap.size + 2 = G2 ∧ G2 < X2) := ⟨hG2, by omega⟩
  clear hT7 ht7 hst7 hT8 P7 hG2l hs67 hs8 M6 M7
  rw [hG2]
  go_upto_region 10 with fail
  rw [← hW8]
  try rw [hX2]
  clear hG2 hW8 hX2
  go_wp2_with fail
  (with_reducible refine P9.out.mono ?_)
  rintro e w9 ⟨rfl, _, ht9, hst9⟩
  have M9 := M8.out.turned27 ht9 (fun x hx => ⟨by have := HOF6.out x hx; have := HS5.out; have := M8.out.own 1 _ _ rfl; omega, fun i o hi => by have := HOF6.out x hx; have := HLT6.out x hx; have := HS5.out; have := HG1X.out; have := HG2X.out; rcases i with _ | _ | _ | _ | i <;> simp at hi <;> omega⟩)
  obtain ⟨G3, hG3⟩ : ∃ g, X2 + 1 + 2 = g := ⟨_, rfl⟩
  rw [hG3] at hst9
  have hG3l := lt_of_heap hst9
  have M9 := M9.more hst9 (by have := M8.out.own 3 _ _ rfl; omega) (fun i o hi => by have := HS5.out; have := HS56.out; have := HG1X.out; have := HG2X.out; rcases i with _ | _ | _ | _ | i <;> simp at hi <;> omega)
  have M10 := Lib.hid (M9.alloc (.cells #[.int .i64 (b.r : Nat), .slice (some ⟨G3, 0, none⟩) n n, .bool kb] 81))
  obtain ⟨X3, hX3⟩ : ∃ x, w9.heap.size = x := ⟨_, rfl⟩
  obtain ⟨W10, hW10⟩ : ∃ W, W = w9.alloc (.cells #[.int .i64 (b.r : Nat), .slice (some ⟨G3, 0, none⟩) n n, .bool kb] 81) := ⟨_, rfl⟩
  rw [← hW10, hX3] at M10
  have M10 : Hid (Mem w W10 [(G1, .cells (intRow s.st) 3 (0, 0)), (X1, .cells #[.int .i64 (s.r : Nat), .slice (some ⟨G1, 0, none⟩) n n, .bool ks] 81), (G2, .cells (intRow a.st) 3 (0, 0)), (X2, .cells #[.int .i64 (a.r : Nat), .slice (some ⟨G2, 0, none⟩) n n, .bool ka] 81), (G3, .cells (intRow b.st) 3 (0, 0)), (X3, .cells #[.int .i64 (b.r : Nat), .slice (some ⟨G3, 0, none⟩) n n, .bool kb] 81)]) := M10
  clear M9 ht9 hst9 P9 hG3l
  rw [hG3]
  go_upto_region 11 with fail
  rw [← hW10]
  try rw [hX3]
  clear hG3 hW10 hX3 M8
  have HB := Lib.hid M10.out.below
  have s0 := M10.out.cell 1 0 rfl rfl
  have s1 := M10.out.cell 1 1 rfl rfl
  have a0 := M10.out.cell 3 0 rfl rfl
  have a1 := M10.out.cell 3 1 rfl rfl
  have b0 := M10.out.cell 5 0 rfl rfl
  have b1 := M10.out.cell 5 1 rfl rfl
  cases hst : a.stop with
  | true =>
    exact absurd (HUA.out.2 hst) (by omega)
  | false =>
    have h1 := HUA.out.1 hst
    have hpt := HPT.out hst
    have d1 : decide ((a.r : Int) < (0 : Int)) = false := decide_eq_false (by omega)
    have HRS : Hid ((a.r : Int) + (b.r : Int) = (s.r : Int)) := by have := hpt.2.1; show _ = _; omega
    have HPP := Lib.hid hpt.2.2.2
    have HBD := Lib.hid (Tk.sum_bd s.st 0 HGM.out.2.2.2)
    have hlen := HGM.out.2.1
    have hlenA := HGA.out.2.1
    have hlenB := HGB.out.2.1
    clear hpt s0 b0 hst
    go_wp2
    go_loopw [15, 87] (fun t i wr => ∃ j : Nat, j ≤ n ∧ i = .int .i64 (j : Nat) ∧ t = .int .i64 ((s.st.take j).sum) ∧ Mem w wr [(G1, .cells (intRow s.st) 3 (0, 0)), (X1, .cells #[.int .i64 (s.r : Nat), .slice (some ⟨G1, 0, none⟩) n n, .bool ks] 81), (G2, .cells (intRow a.st) 3 (0, 0)), (X2, .cells #[.int .i64 (a.r : Nat), .slice (some ⟨G2, 0, none⟩) n n, .bool ka] 81), (G3, .cells (intRow b.st) 3 (0, 0)), (X3, .cells #[.int .i64 (b.r : Nat), .slice (some ⟨G3, 0, none⟩) n n, .bool kb] 81)]) (fun _ i _ => n - (intOf i).toNat)
    case atStart => exact ⟨0, by omega, rfl, by simp, M10.out⟩
    case round =>
      obtain ⟨j, hj, rfl, rfl, hM⟩ := hrel
      clear M10 s1 a1 b1 a0
      by_cases hlt : j < n
      · have e1 := hM.cell 0 j rfl (intRow_get s.st j (by omega))
        have e2 := hM.cell 2 j rfl (intRow_get a.st j (by omega))
        have e3 := hM.cell 4 j rfl (intRow_get b.st j (by omega))
        have a1 := hM.cell 3 1 rfl rfl
        have b1 := hM.cell 5 1 rfl rfl
        have hpj := HPP.out j hlt
        have hst := Tk.sum_take s.st j (by omega)
        have hbd := HBD.out j (by omega)
        have hbd2 := HBD.out (j + 1) (by omega)
        have ha := HGA.out.2.2.2 j
        have hbb := HGB.out.2.2.2 j
        have hss := HGM.out.2.2.2 j
        obtain ⟨sv, esv⟩ : ∃ v, v = s.st[j]?.getD 0 := ⟨_, rfl⟩
        obtain ⟨av, eav⟩ : ∃ v, v = a.st[j]?.getD 0 := ⟨_, rfl⟩
        obtain ⟨bv, ebv⟩ : ∃ v, v = b.st[j]?.getD 0 := ⟨_, rfl⟩
        obtain ⟨t0, et0⟩ : ∃ v, v = (s.st.take j).sum := ⟨_, rfl⟩
        rw [← esv] at e1 hpj hst hss
        rw [← eav] at e2 hpj ha
        rw [← ebv] at e3 hpj hbb
        rw [← et0] at hst hbd ⊢
        have hjm : ((j : Nat) : Int) * 0 ≤ 2000 := by
          have : (j : Int) * 0 ≤ 12 * 100 := Int.mul_le_mul (by omega) (by omega) (by omega) (by omega)
          omega
        have hab : av + bv = sv := hpj.symm
        have HST := Lib.hid hst
        have MM := Lib.hid hM
        have hjn : (j : Int) < n := by omega
        clear hpj hst hM esv eav ebv et0 hbd2
        go_wp2_with fail
        go_quiet (fail)
        go_wp2
        exact ⟨⟨j + 1, by omega, by go_num, by rw [HST.out], MM.out.drewN _⟩, by simp [intOf]; omega⟩
      · obtain rfl : j = n := by omega
        have hfin : (s.st.take j).sum = (s.r : Nat) := by rw [← hlen, List.take_length]; exact HSUM.out
        rw [hfin]
        have s0 := hM.cell 1 0 rfl rfl
        have a0 := hM.cell 3 0 rfl rfl
        have b0 := hM.cell 5 0 rfl rfl
        have HB2 := Lib.hid hM.below
        have hrs := HRS.out
        obtain ⟨sr, esr⟩ : ∃ x, x = s.r := ⟨_, rfl⟩
        obtain ⟨ar, ear⟩ : ∃ x, x = a.r := ⟨_, rfl⟩
        obtain ⟨br, ebr⟩ : ∃ x, x = b.r := ⟨_, rfl⟩
        have hbm := HGB.out.1
        rw [← esr] at s0 hrs ⊢
        rw [← ear] at a0 hrs har
        rw [← ebr] at b0 hrs hbm
        clear hfin hM esr ear ebr
        go_wp2
        go_ret
        exact ⟨rfl, HB2.out⟩
set_option maxHeartbeats 8000000 in
set_option maxRecDepth 100000 in
theorem schedParts_some (ad0 : Addr) (hl : ∀ a ∈ l, a.In) (hP : ∀ x ∈ P, I64 x) (hpc : 0 ≤ pc) (hs : Toys w q l) (en : l.length = n) (em : P.length = 0) (hc : cut < 256) (hi : Ints .i64 w (some ad0) P) (hf : Tk.few l 0 = true) :
    Calls Try.prog 10 #[.slice q n cap, .slice (some ad0) 0 pc, .int .u8 cut] w fun e w' => e = .returned (.bool true) ∧ Below w.heap.size w w' := by
  obtain ⟨hn, hm100, hph⟩ := Tk.few_of hf
  have FW := fun W h => law27_few q n cap l en (by omega) (some ad0) 0 pc (by omega) W h
  rw [hf] at FW
  have FW := Lib.hid FW
  rw [en] at hn hph
  have hT : ∀ i, i < n → (l[i]?.getD default).In ∧ 0 ≤ (l[i]?.getD default).phase ∧ (l[i]?.getD default).phase ≤ 1000 := fun i hi => ⟨by rw [List.getElem?_eq_getElem (by omega)]; exact hl _ (List.getElem_mem _), (hph i hi).1, (hph i hi).2.1⟩
  have hkm : 0 ≤ 0 := by have := Nat.mod_lt cut (show 0 < 0 + 1 by omega); omega
  have hki : (cut : Int) % ((0 : Int) + 1) = (0 : Nat) := by omega
  have TK := Lib.hid (fun W h => law27_tasks q n cap l en (by omega) W h)
  have HS := Lib.hid hs
  have HT := Lib.hid hT
  have HPI := Lib.hid hP
  have HI := Lib.hid hi
  have hi1 : ∀ W, Below w.heap.size w W → Ints .i64 W (some ad0) (P.take 0) := fun W hb => Ints.take (Sl.below hi hb) 0
  have hi2 : ∀ W, Below w.heap.size w W → Ints .i64 W (some ad0) (P.drop 0) := fun W _ => .inl (by rw [List.length_drop]; omega)
  have HI1 := Lib.hid hi1
  have HI22 := Lib.hid hi2
  have EM := Lib.hid em
  have hg := Tk.good (n := n) (u0 := 0) (T := fun i => l[i]?.getD default) hT P 0
  have hgm := Tk.good (n := n) (u0 := 0) (T := fun i => l[i]?.getD default) hT P 0
  have hTa : ∀ i, i < n → ((Tk.at n 0 (fun i => l[i]?.getD default) P 0).T i).In ∧ 0 ≤ ((Tk.at n 0 (fun i => l[i]?.getD default) P 0).T i).phase ∧ ((Tk.at n 0 (fun i => l[i]?.getD default) P 0).T i).phase ≤ 1000 := fun i hi => ⟨(hg.2.2.1 i hi).1, (hg.2.2.1 i hi).2.1, (hg.2.2.1 i hi).2.2.1⟩
  have hcg := Tk.at_congr (n := n) (u0 := 0) (T := fun i => l[i]?.getD default) (P := P.take 0) (Q := P) 0 (fun i hi => by rw [List.getElem?_take_of_lt hi])
  have hua := Tk.used_all (n := n) (u0 := 0) (T := fun i => l[i]?.getD default) (P := P) 0
  have hsty := fun h => Tk.stays (n := n) (u0 := 0) (T := fun i => l[i]?.getD default) (P := P) (k := 0) h 0
  have hpt := fun h => Tk.parts hT 0 h 0 (P := P)
  have hsum := Tk.sum_st (u0 := 0) hT P 0
  rw [show 0 + 0 = 0 by omega] at hsty
  simp only [show 0 + 0 = 0 by omega] at hpt
  have hgb := Tk.good (n := n) (u0 := ((Tk.at n 0 (fun i => l[i]?.getD default) P 0).r : Nat)) hTa (P.drop 0) 0
  obtain ⟨s, es⟩ : ∃ s, s = Tk.at n 0 (fun i => l[i]?.getD default) P 0 := ⟨_, rfl⟩
  obtain ⟨a, ea⟩ : ∃ s, s = Tk.at n 0 (fun i => l[i]?.getD default) P 0 := ⟨_, rfl⟩
  simp only [← es] at hsty hpt hsum hgm
  simp only [← ea] at hg hTa hcg hua hsty hpt hgb
  obtain ⟨b, eb⟩ : ∃ s, s = Tk.at n (a.r : Nat) a.T (P.drop 0) 0 := ⟨_, rfl⟩
  simp only [← eb] at hgb
  have hsty : a.stop = true → s = a := fun _ => es.trans ea.symm
  have hpt : a.stop = false → s.T = b.T ∧ s.r = a.r + b.r ∧ s.stop = b.stop ∧ ∀ i, i < n → s.st[i]?.getD 0 = a.st[i]?.getD 0 + b.st[i]?.getD 0 := fun h => by rw [ea] at h; have h2 := Tk.parts hT 0 h 0 (P := P); rw [es, eb, ea]; exact h2
  obtain ⟨ks, eks⟩ : ∃ x, x = Tk.stuck n s.T (s.r : Nat) := ⟨_, rfl⟩
  obtain ⟨ka, eka⟩ : ∃ x, x = Tk.stuck n a.T (a.r : Nat) := ⟨_, rfl⟩
  obtain ⟨kb, ekb⟩ : ∃ x, x = Tk.stuck n b.T ((a.r : Nat) + (b.r : Nat) : Int) := ⟨_, rfl⟩
  have ES := Lib.hid es
  have EB := Lib.hid eb
  have HCG := Lib.hid hcg
  have EKS := Lib.hid eks
  have EKA := Lib.hid eka
  have EKB := Lib.hid ekb
  have HTA := Lib.hid hTa
  have HUA := Lib.hid hua
  have HSTY := Lib.hid hsty
  have HPT := Lib.hid hpt
  have HSUM := Lib.hid hsum
  have HGM := Lib.hid hgm
  have HGA := Lib.hid hg
  have HGB := Lib.hid hgb
  have har : a.r ≤ 0 := hg.1
  clear hf hs hl hph hT hP hi hi1 hi2 en em es ea eb eks eka ekb hTa hcg hua hsty hpt hsum hg hgm hgb
  go_enter Try.func10, Try.ntmps10
  go_wp2_with fail
  (with_reducible refine (awake27 _).mono ?_)
  rintro e w1 ⟨rfl, hb1⟩
  have B1 := Lib.hid hb1
  clear hb1
  go_wp2_with fail
  (with_reducible refine (FW.out _ (HS.out.below B1.out)).mono ?_)
  rintro e w2 ⟨rfl, hb2⟩
  have B2 := Lib.hid (B1.out.trans (hb2.mono B1.out.size))
  clear hb2
  go_wp2_with fail
  (with_reducible refine (TK.out _ (HS.out.below B2.out)).mono ?_)
  rintro e w3 ⟨p3, c3, b3, rfl, hM3⟩
  obtain ⟨hT3, hof3, hqb3⟩ := hM3.tasks
  have B3 := Lib.hid (B2.out.trans (hM3.below.mono B2.out.size))
  have P4 := sched_run 0 hT3 HT.out (by omega) (by omega) c3 (some ad0) 0 pc P EM.out (by omega) HPI.out (Sl.below HI.out B3.out) (fun hm0 ad had hh => by
    have h1 := hof3 _ hh
    have h2 := B2.out.size
    obtain ⟨b', off', e', hb', _⟩ := Sl.pos HI.out (by have := EM.out; omega)
    rw [e'] at had
    cases had
    simp only at h1
    omega) (fun x hx ad had e => by have := hqb3 ad had; omega)
  rw [show ((0 : Nat) : Int) = 0 from rfl, ← ES.out] at P4
  simp only [Int.zero_add] at P4
  rw [← EKS.out] at P4
  have P4 := Lib.hid P4
  have HOF := Lib.hid hof3
  have HS23 := Lib.hid hM3.below.size
  clear hM3 hT3 hof3 hqb3
  go_wp2_with fail
  (with_reducible refine P4.out.mono ?_)
  rintro e w4 ⟨rfl, _, ht4, hst4⟩
  have B4 := (B3.out.trans ((ht4.below HOF.out HS23.out).mono B2.out.size))
  have hs3 := B3.out.size
  have hs34 := ht4.size
  obtain ⟨G1, hG1⟩ : ∃ g, w3.heap.size + 2 = g := ⟨_, rfl⟩
  rw [hG1] at hst4
  have hG1l := lt_of_heap hst4
  have M4 := (⟨B4, fun _ _ _ h => by simp at h, fun _ _ _ _ _ h => by simp at h, fun _ _ _ h => by simp at h⟩ : Mem w w4 []).more hst4 (by omega) (fun i o h => by simp at h)
  have M5 := Lib.hid (M4.alloc (.cells #[.int .i64 (s.r : Nat), .slice (some ⟨G1, 0, none⟩) n n, .bool ks] 81))
  obtain ⟨X1, hX1⟩ : ∃ x, w4.heap.size = x := ⟨_, rfl⟩
  obtain ⟨W5, hW5⟩ : ∃ W, W = w4.alloc (.cells #[.int .i64 (s.r : Nat), .slice (some ⟨G1, 0, none⟩) n n, .bool ks] 81) := ⟨_, rfl⟩
  rw [← hW5, hX1] at M5
  have hs5 : W5.heap.size = X1 + 1 := by rw [hW5, World.size_alloc, hX1]
  have HS5 := Lib.hid hs5
  have HG1X : Hid (G1 < X1) := by show _ < _; omega
  have TK6 := Lib.hid (TK.out _ (HS.out.below M5.out.below))
  clear B4 M4 ht4 hst4 P4 HOF hG1l hs34 hs3 hs5
  rw [hG1]
  go_upto_region 8 with fail
  rw [← hW5]
  try rw [hX1]
  clear hG1 hW5 hX1
  go_wp2_with fail
  (with_reducible refine TK6.out.mono ?_)
  rintro e w6 ⟨p6, c6, b6, rfl, hM6⟩
  obtain ⟨hT6, hof6, hqb6⟩ := hM6.tasks
  have M6 := Lib.hid (M5.out.call hM6.below)
  have hlt6 := hT6.lt
  have hs56 := hM6.below.size
  have P7 := sched_run 0 hT6 HT.out (by omega) (by omega) c6 (some ad0) 0 pc (P.take 0) (by rw [List.length_take]; have := EM.out; omega) (by omega) (fun x hx => HPI.out x (List.mem_of_mem_take hx)) (HI1.out _ M6.out.below) (fun hk0 ad had hh => by
    have h1 := hof6 _ hh
    have h2 := M5.out.below.size
    obtain ⟨b', off', e', hb', _⟩ := Sl.pos HI.out (by have := EM.out; omega)
    rw [e'] at had
    cases had
    simp only at h1
    omega) (fun x hx ad had e => by have := hqb6 ad had; omega)
  rw [show ((0 : Nat) : Int) = 0 from rfl, HCG.out] at P7
  simp only [Int.zero_add] at P7
  rw [← EKA.out] at P7
  have P7 := Lib.hid P7
  have HOF6 := Lib.hid hof6
  have HLT6 := Lib.hid hlt6
  have HQB6 := Lib.hid hqb6
  have HS56 := Lib.hid hs56
  clear hM6 hT6 hof6 hqb6 hlt6 hs56 TK6 M5
  go_wp2_with fail
  (with_reducible refine P7.out.mono ?_)
  rintro e w7 ⟨rfl, hT7, ht7, hst7⟩
  have M7 := M6.out.turned27 ht7 (fun x hx => ⟨by have := HOF6.out x hx; have := HS5.out; have := M6.out.own 0 _ _ rfl; have := HG1X.out; omega, fun i o hi => by have := HOF6.out x hx; have := HS5.out; have := HG1X.out; rcases i with _ | _ | i <;> simp at hi <;> omega⟩)
  obtain ⟨G2, hG2⟩ : ∃ g, w6.heap.size + 2 = g := ⟨_, rfl⟩
  rw [hG2] at hst7
  have hG2l := lt_of_heap hst7
  have M7 := M7.more hst7 (by have := M6.out.below.size; omega) (fun i o hi => by have := HS5.out; have := HS56.out; have := HG1X.out; rcases i with _ | _ | i <;> simp at hi <;> omega)
  have M8 := Lib.hid (M7.alloc (.cells #[.int .i64 (a.r : Nat), .slice (some ⟨G2, 0, none⟩) n n, .bool ka] 81))
  have hT8 := hT7.below (below1 w7 (.cells #[.int .i64 (a.r : Nat), .slice (some ⟨G2, 0, none⟩) n n, .bool ka] 81))
  obtain ⟨X2, hX2⟩ : ∃ x, w7.heap.size = x := ⟨_, rfl⟩
  obtain ⟨W8, hW8⟩ : ∃ W, W = w7.alloc (.cells #[.int .i64 (a.r : Nat), .slice (some ⟨G2, 0, none⟩) n n, .bool ka] 81) := ⟨_, rfl⟩
  rw [← hW8] at M8 hT8
  rw [hX2] at M8
  have hs8 : W8.heap.size = X2 + 1 := by rw [hW8, World.size_alloc, hX2]
  have hs67 := ht7.size
  have P9 := sched_run a.r hT8 HTA.out (by omega) (by omega) c6 (some ad0) 0 pc (P.drop 0) (by rw [List.length_drop]; have := EM.out; omega) (by omega) (fun x hx => HPI.out x (List.mem_of_mem_drop hx)) (HI22.out _ M8.out.below) (fun hk0 ad had hh => by
    have h1 := HOF6.out _ hh
    have h2 := HS5.out
    have h3 := M6.out.own 1 _ _ rfl
    obtain ⟨b', off', e', hb', _⟩ := Sl.pos HI.out (by have := EM.out; omega)
    omega) (fun x hx ad had e => by have := HQB6.out ad had; omega)
  rw [← EB.out, ← EKB.out, hs8] at P9
  have P9 := Lib.hid P9
  have HS8 := Lib.hid hs8
  have HG2X : Hid (w6.heap.size + 2 = G2 ∧ G2 < X2) := ⟨hG2, by omega⟩
  clear hT7 ht7 hst7 hT8 P7 hG2l hs67 hs8 M6 M7
  rw [hG2]
  go_upto_region 10 with fail
  rw [← hW8]
  try rw [hX2]
  clear hG2 hW8 hX2
  go_wp2_with fail
  (with_reducible refine P9.out.mono ?_)
  rintro e w9 ⟨rfl, _, ht9, hst9⟩
  have M9 := M8.out.turned27 ht9 (fun x hx => ⟨by have := HOF6.out x hx; have := HS5.out; have := M8.out.own 1 _ _ rfl; omega, fun i o hi => by have := HOF6.out x hx; have := HLT6.out x hx; have := HS5.out; have := HG1X.out; have := HG2X.out; rcases i with _ | _ | _ | _ | i <;> simp at hi <;> omega⟩)
  obtain ⟨G3, hG3⟩ : ∃ g, X2 + 1 + 2 = g := ⟨_, rfl⟩
  rw [hG3] at hst9
  have hG3l := lt_of_heap hst9
  have M9 := M9.more hst9 (by have := M8.out.own 3 _ _ rfl; omega) (fun i o hi => by have := HS5.out; have := HS56.out; have := HG1X.out; have := HG2X.out; rcases i with _ | _ | _ | _ | i <;> simp at hi <;> omega)
  have M10 := Lib.hid (M9.alloc (.cells #[.int .i64 (b.r : Nat), .slice (some ⟨G3, 0, none⟩) n n, .bool kb] 81))
  obtain ⟨X3, hX3⟩ : ∃ x, w9.heap.size = x := ⟨_, rfl⟩
  obtain ⟨W10, hW10⟩ : ∃ W, W = w9.alloc (.cells #[.int .i64 (b.r : Nat), .slice (some ⟨G3, 0, none⟩) n n, .bool kb] 81) := ⟨_, rfl⟩
  rw [← hW10, hX3] at M10
  have M10 : Hid (Mem w W10 [(G1, .cells (intRow s.st) 3 (0, 0)), (X1, .cells #[.int .i64 (s.r : Nat), .slice (some ⟨G1, 0, none⟩) n n, .bool ks] 81), (G2, .cells (intRow a.st) 3 (0, 0)), (X2, .cells #[.int .i64 (a.r : Nat), .slice (some ⟨G2, 0, none⟩) n n, .bool ka] 81), (G3, .cells (intRow b.st) 3 (0, 0)), (X3, .cells #[.int .i64 (b.r : Nat), .slice (some ⟨G3, 0, none⟩) n n, .bool kb] 81)]) := M10
  clear M9 ht9 hst9 P9 hG3l
  rw [hG3]
  go_upto_region 11 with fail
  rw [← hW10]
  try rw [hX3]
  clear hG3 hW10 hX3 M8
  have HB := Lib.hid M10.out.below
  have s0 := M10.out.cell 1 0 rfl rfl
  have s1 := M10.out.cell 1 1 rfl rfl
  have a0 := M10.out.cell 3 0 rfl rfl
  have a1 := M10.out.cell 3 1 rfl rfl
  have b0 := M10.out.cell 5 0 rfl rfl
  have b1 := M10.out.cell 5 1 rfl rfl
  cases hst : a.stop with
  | true =>
    exact absurd (HUA.out.2 hst) (by omega)
  | false =>
    have h1 := HUA.out.1 hst
    have hpt := HPT.out hst
    have d1 : decide ((a.r : Int) < (0 : Int)) = false := decide_eq_false (by omega)
    have HRS : Hid ((a.r : Int) + (b.r : Int) = (s.r : Int)) := by have := hpt.2.1; show _ = _; omega
    have HPP := Lib.hid hpt.2.2.2
    have HBD := Lib.hid (Tk.sum_bd s.st 0 HGM.out.2.2.2)
    have hlen := HGM.out.2.1
    have hlenA := HGA.out.2.1
    have hlenB := HGB.out.2.1
    clear hpt s0 b0 hst
    go_wp2
    go_loopw [15, 87] (fun t i wr => ∃ j : Nat, j ≤ n ∧ i = .int .i64 (j : Nat) ∧ t = .int .i64 ((s.st.take j).sum) ∧ Mem w wr [(G1, .cells (intRow s.st) 3 (0, 0)), (X1, .cells #[.int .i64 (s.r : Nat), .slice (some ⟨G1, 0, none⟩) n n, .bool ks] 81), (G2, .cells (intRow a.st) 3 (0, 0)), (X2, .cells #[.int .i64 (a.r : Nat), .slice (some ⟨G2, 0, none⟩) n n, .bool ka] 81), (G3, .cells (intRow b.st) 3 (0, 0)), (X3, .cells #[.int .i64 (b.r : Nat), .slice (some ⟨G3, 0, none⟩) n n, .bool kb] 81)]) (fun _ i _ => n - (intOf i).toNat)
    case atStart => exact ⟨0, by omega, rfl, by simp, M10.out⟩
    case round =>
      obtain ⟨j, hj, rfl, rfl, hM⟩ := hrel
      clear M10 s1 a1 b1 a0
      by_cases hlt : j < n
      · have e1 := hM.cell 0 j rfl (intRow_get s.st j (by omega))
        have e2 := hM.cell 2 j rfl (intRow_get a.st j (by omega))
        have e3 := hM.cell 4 j rfl (intRow_get b.st j (by omega))
        have a1 := hM.cell 3 1 rfl rfl
        have b1 := hM.cell 5 1 rfl rfl
        have hpj := HPP.out j hlt
        have hst := Tk.sum_take s.st j (by omega)
        have hbd := HBD.out j (by omega)
        have hbd2 := HBD.out (j + 1) (by omega)
        have ha := HGA.out.2.2.2 j
        have hbb := HGB.out.2.2.2 j
        have hss := HGM.out.2.2.2 j
        obtain ⟨sv, esv⟩ : ∃ v, v = s.st[j]?.getD 0 := ⟨_, rfl⟩
        obtain ⟨av, eav⟩ : ∃ v, v = a.st[j]?.getD 0 := ⟨_, rfl⟩
        obtain ⟨bv, ebv⟩ : ∃ v, v = b.st[j]?.getD 0 := ⟨_, rfl⟩
        obtain ⟨t0, et0⟩ : ∃ v, v = (s.st.take j).sum := ⟨_, rfl⟩
        rw [← esv] at e1 hpj hst hss
        rw [← eav] at e2 hpj ha
        rw [← ebv] at e3 hpj hbb
        rw [← et0] at hst hbd ⊢
        have hjm : ((j : Nat) : Int) * 0 ≤ 2000 := by
          have : (j : Int) * 0 ≤ 12 * 100 := Int.mul_le_mul (by omega) (by omega) (by omega) (by omega)
          omega
        have hab : av + bv = sv := hpj.symm
        have HST := Lib.hid hst
        have MM := Lib.hid hM
        have hjn : (j : Int) < n := by omega
        clear hpj hst hM esv eav ebv et0 hbd2
        go_wp2_with fail
        go_quiet (fail)
        go_wp2
        exact ⟨⟨j + 1, by omega, by go_num, by rw [HST.out], MM.out.drewN _⟩, by simp [intOf]; omega⟩
      · obtain rfl : j = n := by omega
        have hfin : (s.st.take j).sum = (s.r : Nat) := by rw [← hlen, List.take_length]; exact HSUM.out
        rw [hfin]
        have s0 := hM.cell 1 0 rfl rfl
        have a0 := hM.cell 3 0 rfl rfl
        have b0 := hM.cell 5 0 rfl rfl
        have HB2 := Lib.hid hM.below
        have hrs := HRS.out
        obtain ⟨sr, esr⟩ : ∃ x, x = s.r := ⟨_, rfl⟩
        obtain ⟨ar, ear⟩ : ∃ x, x = a.r := ⟨_, rfl⟩
        obtain ⟨br, ebr⟩ : ∃ x, x = b.r := ⟨_, rfl⟩
        have hbm := HGB.out.1
        rw [← esr] at s0 hrs ⊢
        rw [← ear] at a0 hrs har
        rw [← ebr] at b0 hrs hbm
        clear hfin hM esr ear ebr
        go_wp2
        go_ret
        exact ⟨rfl, HB2.out⟩
end
end Go.Proofs.Ytldhbgefpfmkmaa
