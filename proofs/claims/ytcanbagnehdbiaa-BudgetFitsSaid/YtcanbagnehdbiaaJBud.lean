/- Layer 51: what is wrong with wants; who lacks the most. A want is kept as a pair: what is needed (tick), what is wanted (val). -/
import Derived.Test.YtcanbagnehdbiaaJSamp
import Derived.Test.YtcanbagnehdbiaaJBase
import Derived.Test.YtcanbagnehdbiaaJStat
import Derived.Deep.CutRange
namespace Go.Proofs.Ytcanbagnehdbiaa
open Go.ChangeShapes Go.WideShapes Go.ChangeAt Go.RowKit

theorem Samps.bc {w0 : World} {b off : Nat} {l : List Samp} (h : Samps w0 (some ⟨b, off, none⟩) l) (k : Nat) (hk : k < l.length) (W : World) (hb : Below w0.heap.size w0 W) :
    W.cell? ⟨b, off + k * 2, none⟩ = some (.int .i64 (l[k]?.getD default).tick) ∧ W.cell? ⟨b, off + k * 2 + 1, none⟩ = some (.int .i64 (l[k]?.getD default).val) := by
  obtain ⟨b', off', e, _, h2⟩ := (h.below hb).cells k hk
  simp only [Option.some.injEq, Addr.mk.injEq] at e
  obtain ⟨rfl, rfl, _⟩ := e
  exact h2

def Bud.bads (l : List Samp) : Nat → Bool
  | 0 => false
  | k + 1 => Bud.bads l k || (decide ((l[k]?.getD default).tick < 0) || decide ((l[k]?.getD default).val < (l[k]?.getD default).tick))
theorem Bud.bads_up (l : List Samp) : ∀ n k, k ≤ n → Bud.bads l k = true → Bud.bads l n = true
  | 0, k, h, e => by obtain rfl : k = 0 := by omega
                     exact e
  | n + 1, k, h, e => by
    by_cases hk : k = n + 1
    · subst hk; exact e
    · unfold Bud.bads; rw [Bud.bads_up l n k (by omega) e]; rfl
def Bud.mins (l : List Samp) : List Int := l.map Samp.tick
def Bud.check (total : Int) (l : List Samp) : Int :=
  if total < 0 ∨ 4096 < total ∨ 64 < l.length then 1 else if Bud.bads l l.length = true then 4 else if total < Sat.sum (Bud.mins l) then 12 else 0
theorem Bud.mins_next (l : List Samp) (k : Nat) (h : k < l.length) : Sat.sum ((Bud.mins l).take (k + 1)) = Sat.clamp (Sat.sum ((Bud.mins l).take k) + (l[k]?.getD default).tick) := by
  rw [Sat.sum_step (Bud.mins l) k (by unfold Bud.mins; rw [List.length_map]; exact h)]
  unfold Bud.mins
  rw [List.getElem?_map, List.getElem?_eq_getElem h]
  rfl

set_option maxHeartbeats 2000000 in
set_option maxRecDepth 100000 in
theorem budget_check (total : Int) (q : Option Addr) (c : Nat) (l : List Samp) (hl : ∀ a ∈ l, a.In) (hb : l.length ≤ 9223372036854775807) (w : World) (hs : Samps w q l) :
    Calls Try.prog 24 #[.int .i64 total, .slice q l.length c] w fun e w' => e = .returned (.int .i64 (Bud.check total l)) ∧ Below w.heap.size w w' := by
  have hd : Bud.check total l = if total < 0 ∨ 4096 < total ∨ 64 < l.length then 1 else if Bud.bads l l.length = true then 4 else if total < Sat.sum (Bud.mins l) then 12 else 0 := rfl
  obtain ⟨r, er⟩ : ∃ r, r = Bud.check total l := ⟨_, rfl⟩
  rw [← er] at hd ⊢
  have HS := Lib.hid hs
  have HIN := Lib.hid hl
  have HUP := Lib.hid (fun k hk => Bud.bads_up l l.length k hk)
  have HMN := Lib.hid (Bud.mins_next l)
  have HME : Hid (Sat.sum ((Bud.mins l).take l.length) = Sat.sum (Bud.mins l)) := by show _ = _; rw [List.take_of_length_le (by unfold Bud.mins; rw [List.length_map]; exact Nat.le_refl _)]
  have HM64 := Lib.hid (fun k => Sat.sum_I64 ((Bud.mins l).take k))
  obtain ⟨n, en⟩ : ∃ n, n = l.length := ⟨_, rfl⟩
  have EN := Lib.hid en
  rw [← en] at hb hd HUP HME ⊢
  clear hs hl er en
  by_cases t1 : total < 0
  · have HE := Lib.hid (hd.trans (if_pos (.inl t1)))
    clear hd
    go_enter Try.func24, Try.ntmps24
    go_wp2
    go_ret
    exact ⟨ret_int HE.out.symm, Below.refl _ _⟩
  by_cases t2 : 4096 < total
  · have HE := Lib.hid (hd.trans (if_pos (.inr (.inl t2))))
    clear hd
    go_enter Try.func24, Try.ntmps24
    go_wp2
    go_ret
    exact ⟨ret_int HE.out.symm, Below.refl _ _⟩
  by_cases t3 : 64 < n
  · have HE := Lib.hid (hd.trans (if_pos (.inr (.inr t3))))
    have d1 : decide ((64 : Int) < n) = true := decide_eq_true (by omega)
    clear hd
    go_enter Try.func24, Try.ntmps24
    go_wp2
    go_ret
    exact ⟨ret_int HE.out.symm, Below.refl _ _⟩
  have d1 : decide ((64 : Int) < n) = false := decide_eq_false (by omega)
  have HD := Lib.hid (hd.trans (if_neg (by omega)))
  have hn64 : n ≤ 64 := by omega
  obtain ⟨sm, esm⟩ : ∃ f, f = fun k => Sat.sum ((Bud.mins l).take k) := ⟨_, rfl⟩
  have HMN2 : Hid (∀ k, k < l.length → sm (k + 1) = Sat.clamp (sm k + (l[k]?.getD default).tick)) := by rw [esm]; exact HMN.out
  have HM642 : Hid (∀ k, I64 (sm k)) := by rw [esm]; exact HM64.out
  have HME2 : Hid (sm n = Sat.sum (Bud.mins l)) := by rw [esm]; exact HME.out
  have HM0 : Hid (sm 0 = 0) := by rw [esm]; rfl
  have HBN := Lib.hid (fun k => show Bud.bads l (k + 1) = (Bud.bads l k || (decide ((l[k]?.getD default).tick < 0) || decide ((l[k]?.getD default).val < (l[k]?.getD default).tick))) from rfl)
  have HB0 : Hid (Bud.bads l 0 = false) := rfl
  obtain ⟨bd, ebd⟩ : ∃ f, f = Bud.bads l := ⟨_, rfl⟩
  rw [← ebd] at HBN HB0 HUP HD
  clear hd esm ebd HMN HM64 HME
  go_enter Try.func24, Try.ntmps24
  go_wp2
  go_loopw [5, 21] (fun s i wr => ∃ k : Nat, k ≤ n ∧ i = .int .i64 (k : Nat) ∧ s = .int .i64 (sm k) ∧ bd k = false ∧ Below w.heap.size w wr) (fun _ i _ => n - (intOf i).toNat)
  case atStart => exact ⟨0, by omega, rfl, by rw [HM0.out], HB0.out, Below.refl _ _⟩
  case round =>
    obtain ⟨k, hk, rfl, rfl, hbd, hB⟩ := hrel
    by_cases hlt : k < n
    · have hkl : k < l.length := by have := EN.out; omega
      obtain ⟨bq, off, rfl, hbw, _⟩ := HS.out.cells k hkl
      obtain ⟨c0, c1⟩ := HS.out.bc k hkl wr hB
      have hin : (l[k]?.getD default).In := by rw [List.getElem?_eq_getElem hkl]; exact HIN.out _ (List.getElem_mem _)
      have hmn := HMN2.out k hkl
      have hbn := HBN.out k
      rw [hbd, Bool.false_or] at hbn
      have h64 := HM642.out k
      obtain ⟨⟨x0, x1⟩, ex⟩ : ∃ x, x = l[k]?.getD default := ⟨_, rfl⟩
      rw [← ex] at c0 c1 hmn hbn hin
      simp only at c0 c1 hmn hbn
      obtain ⟨s, es⟩ : ∃ s, s = sm k := ⟨_, rfl⟩
      rw [← es] at hmn h64 ⊢
      have A := Lib.hid (sat_add s x0 h64 hin.1)
      have HMN3 := Lib.hid hmn
      have HBD := Lib.hid hbn
      have HA : Hid (Below w.heap.size w (wr.alloc (.cells #[.int .i64 x0, .int .i64 x1] 116))) := hB.alloc hB.size _
      have HBB := Lib.hid hB
      have hkn : (k : Int) < n := by omega
      have hk0 : (0 : Int) ≤ k := by omega
      have hup := HUP.out (k + 1) (by omega)
      clear hB ex es hmn hbn hkl h64 hin hbd
      by_cases h0 : x0 < 0
      · have hE : r = 4 := HD.out.trans (if_pos (hup (HBD.out.trans (by rw [decide_eq_true h0]; rfl))))
        have HE := Lib.hid hE
        clear hE hup HBD HMN3
        go_wp2
        go_ret
        exact ⟨ret_int HE.out.symm, HA.out⟩
      by_cases h1 : x1 < x0
      · have hE : r = 4 := HD.out.trans (if_pos (hup (HBD.out.trans (by rw [decide_eq_true h1, Bool.or_true]))))
        have HE := Lib.hid hE
        clear hE hup HBD HMN3
        go_wp2
        go_ret
        exact ⟨ret_int HE.out.symm, HA.out⟩
      have hF : bd (k + 1) = false := HBD.out.trans (by rw [decide_eq_false h0, decide_eq_false h1]; rfl)
      have HF := Lib.hid hF
      clear hup HBD hF
      go_wp2_with ((with_reducible refine (A.out _).mono ?_); rintro e w5 ⟨rfl, rfl⟩)
      exact ⟨⟨k + 1, by omega, by go_num, by rw [HMN3.out], HF.out, HA.out⟩, by simp [intOf]; omega⟩
    · obtain rfl : k = n := by omega
      have hD := HD.out.trans (if_neg (by rw [hbd]; simp))
      rw [← HME2.out] at hD
      obtain ⟨s, es⟩ : ∃ s, s = sm k := ⟨_, rfl⟩
      rw [← es] at hD ⊢
      have BF := Lib.hid hB
      clear hB es HD hbd
      by_cases hc : total < s
      · have HE := Lib.hid (hD.trans (if_pos hc))
        clear hD
        go_wp2
        go_ret
        exact ⟨ret_int HE.out.symm, BF.out⟩
      · have HE := Lib.hid (hD.trans (if_neg hc))
        clear hD
        go_wp2
        go_ret
        exact ⟨ret_int HE.out.symm, BF.out⟩

set_option maxHeartbeats 2000000 in
set_option maxRecDepth 100000 in
theorem ref51_check (total : Int) (q : Option Addr) (c : Nat) (l : List Samp) (hl : ∀ a ∈ l, a.In) (hb : l.length ≤ 9223372036854775807) (w : World) (hs : Samps w q l) :
    Calls Try.prog 23 #[.int .i64 total, .slice q l.length c] w fun e w' => e = .returned (.int .i64 (Bud.check total l)) ∧ Below w.heap.size w w' := by
  have hd : Bud.check total l = if total < 0 ∨ 4096 < total ∨ 64 < l.length then 1 else if Bud.bads l l.length = true then 4 else if total < Sat.sum (Bud.mins l) then 12 else 0 := rfl
  obtain ⟨r, er⟩ : ∃ r, r = Bud.check total l := ⟨_, rfl⟩
  rw [← er] at hd ⊢
  have HS := Lib.hid hs
  have HIN := Lib.hid hl
  have HUP := Lib.hid (fun k hk => Bud.bads_up l l.length k hk)
  have HMN := Lib.hid (Bud.mins_next l)
  have HME : Hid (Sat.sum ((Bud.mins l).take l.length) = Sat.sum (Bud.mins l)) := by show _ = _; rw [List.take_of_length_le (by unfold Bud.mins; rw [List.length_map]; exact Nat.le_refl _)]
  have HM64 := Lib.hid (fun k => Sat.sum_I64 ((Bud.mins l).take k))
  obtain ⟨n, en⟩ : ∃ n, n = l.length := ⟨_, rfl⟩
  have EN := Lib.hid en
  rw [← en] at hb hd HUP HME ⊢
  clear hs hl er en
  by_cases t1 : total < 0
  · have HE := Lib.hid (hd.trans (if_pos (.inl t1)))
    clear hd
    go_enter Try.func23, Try.ntmps23
    go_wp2
    go_ret
    exact ⟨ret_int HE.out.symm, Below.refl _ _⟩
  by_cases t2 : 4096 < total
  · have HE := Lib.hid (hd.trans (if_pos (.inr (.inl t2))))
    clear hd
    go_enter Try.func23, Try.ntmps23
    go_wp2
    go_ret
    exact ⟨ret_int HE.out.symm, Below.refl _ _⟩
  by_cases t3 : 64 < n
  · have HE := Lib.hid (hd.trans (if_pos (.inr (.inr t3))))
    have d1 : decide ((64 : Int) < n) = true := decide_eq_true (by omega)
    clear hd
    go_enter Try.func23, Try.ntmps23
    go_wp2
    go_ret
    exact ⟨ret_int HE.out.symm, Below.refl _ _⟩
  have d1 : decide ((64 : Int) < n) = false := decide_eq_false (by omega)
  have HD := Lib.hid (hd.trans (if_neg (by omega)))
  have hn64 : n ≤ 64 := by omega
  obtain ⟨sm, esm⟩ : ∃ f, f = fun k => Sat.sum ((Bud.mins l).take k) := ⟨_, rfl⟩
  have HMN2 : Hid (∀ k, k < l.length → sm (k + 1) = Sat.clamp (sm k + (l[k]?.getD default).tick)) := by rw [esm]; exact HMN.out
  have HM642 : Hid (∀ k, I64 (sm k)) := by rw [esm]; exact HM64.out
  have HME2 : Hid (sm n = Sat.sum (Bud.mins l)) := by rw [esm]; exact HME.out
  have HM0 : Hid (sm 0 = 0) := by rw [esm]; rfl
  have HBN := Lib.hid (fun k => show Bud.bads l (k + 1) = (Bud.bads l k || (decide ((l[k]?.getD default).tick < 0) || decide ((l[k]?.getD default).val < (l[k]?.getD default).tick))) from rfl)
  have HB0 : Hid (Bud.bads l 0 = false) := rfl
  obtain ⟨bd, ebd⟩ : ∃ f, f = Bud.bads l := ⟨_, rfl⟩
  rw [← ebd] at HBN HB0 HUP HD
  clear hd esm ebd HMN HM64 HME
  go_enter Try.func23, Try.ntmps23
  go_wp2
  go_loopw [5, 6] (fun s i wr => ∃ k : Nat, k ≤ n ∧ i = .int .i64 (k : Nat) ∧ s = .int .i64 (sm k) ∧ bd k = false ∧ Below w.heap.size w wr) (fun _ i _ => n - (intOf i).toNat)
  case atStart => exact ⟨0, by omega, rfl, by rw [HM0.out], HB0.out, Below.refl _ _⟩
  case round =>
    obtain ⟨k, hk, rfl, rfl, hbd, hB⟩ := hrel
    by_cases hlt : k < n
    · have hkl : k < l.length := by have := EN.out; omega
      obtain ⟨bq, off, rfl, hbw, _⟩ := HS.out.cells k hkl
      obtain ⟨c0, c1⟩ := HS.out.bc k hkl wr hB
      have hin : (l[k]?.getD default).In := by rw [List.getElem?_eq_getElem hkl]; exact HIN.out _ (List.getElem_mem _)
      have hmn := HMN2.out k hkl
      have hbn := HBN.out k
      rw [hbd, Bool.false_or] at hbn
      have h64 := HM642.out k
      obtain ⟨⟨x0, x1⟩, ex⟩ : ∃ x, x = l[k]?.getD default := ⟨_, rfl⟩
      rw [← ex] at c0 c1 hmn hbn hin
      simp only at c0 c1 hmn hbn
      obtain ⟨s, es⟩ : ∃ s, s = sm k := ⟨_, rfl⟩
      rw [← es] at hmn h64 ⊢
      have A := Lib.hid (ref_add s x0 h64 hin.1)
      have HMN3 := Lib.hid hmn
      have HBD := Lib.hid hbn
      have HA : Hid (Below w.heap.size w wr) := hB
      have HBB := Lib.hid hB
      have hkn : (k : Int) < n := by omega
      have hk0 : (0 : Int) ≤ k := by omega
      have hup := HUP.out (k + 1) (by omega)
      clear hB ex es hmn hbn hkl h64 hin hbd
      by_cases h0 : x0 < 0
      · have hE : r = 4 := HD.out.trans (if_pos (hup (HBD.out.trans (by rw [decide_eq_true h0]; rfl))))
        have HE := Lib.hid hE
        clear hE hup HBD HMN3
        go_wp2_with fail
        go_quiet (fail)
        go_wp2
        go_ret
        exact ⟨ret_int HE.out.symm, below_drewN HBB.out _⟩
      by_cases h1 : x1 < x0
      · have hE : r = 4 := HD.out.trans (if_pos (hup (HBD.out.trans (by rw [decide_eq_true h1, Bool.or_true]))))
        have HE := Lib.hid hE
        clear hE hup HBD HMN3
        go_wp2_with fail
        go_quiet (fail)
        go_wp2
        go_ret
        exact ⟨ret_int HE.out.symm, below_drewN HBB.out _⟩
      have hF : bd (k + 1) = false := HBD.out.trans (by rw [decide_eq_false h0, decide_eq_false h1]; rfl)
      have HF := Lib.hid hF
      clear hup HBD hF
      go_wp2_with fail
      go_quiet (fail)
      go_wp2_with ((with_reducible refine (A.out _).mono ?_); rintro e w5 ⟨rfl, rfl⟩)
      exact ⟨⟨k + 1, by omega, by go_num, by rw [HMN3.out], HF.out, below_drewN HBB.out _⟩, by simp [intOf]; omega⟩
    · obtain rfl : k = n := by omega
      have hD := HD.out.trans (if_neg (by rw [hbd]; simp))
      rw [← HME2.out] at hD
      obtain ⟨s, es⟩ : ∃ s, s = sm k := ⟨_, rfl⟩
      rw [← es] at hD ⊢
      have BF := Lib.hid hB
      clear hB es HD hbd
      by_cases hc : total < s
      · have HE := Lib.hid (hD.trans (if_pos hc))
        clear hD
        go_wp2
        go_ret
        exact ⟨ret_int HE.out.symm, BF.out⟩
      · have HE := Lib.hid (hD.trans (if_neg hc))
        clear hD
        go_wp2
        go_ret
        exact ⟨ret_int HE.out.symm, BF.out⟩

/-- Who of the first k lacks the most, and how much. -/
def Bud.scan (wt hv : Nat → Int) : Nat → Int × Int
  | 0 => (-1, 0)
  | k + 1 => if (Bud.scan wt hv k).2 < wt k - hv k then ((k : Int), wt k - hv k) else Bud.scan wt hv k
theorem Bud.scan_spec (wt hv : Nat → Int) : ∀ k, ((Bud.scan wt hv k).1 = -1 ∧ (Bud.scan wt hv k).2 = 0 ∧ ∀ j, j < k → wt j - hv j ≤ 0) ∨ ∃ j, j < k ∧ (Bud.scan wt hv k).1 = (j : Int) ∧ (Bud.scan wt hv k).2 = wt j - hv j ∧ 0 < wt j - hv j ∧ ∀ i, i < k → wt i - hv i ≤ wt j - hv j
  | 0 => .inl ⟨rfl, rfl, fun j h => absurd h (Nat.not_lt_zero j)⟩
  | k + 1 => by
    have ih := Bud.scan_spec wt hv k
    unfold Bud.scan
    by_cases hc : (Bud.scan wt hv k).2 < wt k - hv k
    · rw [if_pos hc]
      right
      refine ⟨k, by omega, rfl, rfl, ?_, fun i hi => ?_⟩
      · rcases ih with ⟨_, h, _⟩ | ⟨j, _, _, h, h2, _⟩ <;> omega
      · by_cases e : i = k
        · subst e; exact Int.le_refl _
        · rcases ih with ⟨_, h, h3⟩ | ⟨j, _, _, h, h2, h3⟩
          · have := h3 i (by omega); omega
          · have := h3 i (by omega); omega
    · rw [if_neg hc]
      rcases ih with ⟨h1, h2, h3⟩ | ⟨j, h0, h1, h2, h4, h3⟩
      · refine .inl ⟨h1, h2, fun i hi => ?_⟩
        by_cases e : i = k
        · subst e; omega
        · exact h3 i (by omega)
      · refine .inr ⟨j, by omega, h1, h2, h4, fun i hi => ?_⟩
        by_cases e : i = k
        · subst e; omega
        · exact h3 i (by omega)
def Bud.wt (l : List Samp) (j : Nat) : Int := (l[j]?.getD default).val
def Bud.hv (h : List Int) (j : Nat) : Int := h[j]?.getD 0
/-- What each has is not below 0, and not more than is wanted. -/
def Bud.Ok (l : List Samp) (h : List Int) : Prop := h.length = l.length ∧ ∀ j, j < l.length → 0 ≤ Bud.hv h j ∧ Bud.hv h j ≤ Bud.wt l j ∧ Bud.wt l j ≤ 9223372036854775807

set_option maxHeartbeats 2000000 in
set_option maxRecDepth 100000 in
theorem budget_neediest (q : Option Addr) (c : Nat) (l : List Samp) (p : Option Addr) (d : Nat) (h : List Int) (hok : Bud.Ok l h) (hb : l.length ≤ 100) (w : World) (hs : Samps w q l) (hh : Ints .i64 w p h) :
    Calls Try.prog 72 #[.slice q l.length c, .slice p l.length d] w fun e w' => e = .returned (.int .i64 (Bud.scan (Bud.wt l) (Bud.hv h) l.length).1) ∧ Below w.heap.size w w' := by
  have HS := Lib.hid hs
  have HH := Lib.hid hh
  have HOK := Lib.hid hok
  have HZ : Hid (Bud.scan (Bud.wt l) (Bud.hv h) 0 = (-1, 0)) := rfl
  have HN := Lib.hid (fun k => show Bud.scan (Bud.wt l) (Bud.hv h) (k + 1) = if (Bud.scan (Bud.wt l) (Bud.hv h) k).2 < Bud.wt l k - Bud.hv h k then ((k : Int), Bud.wt l k - Bud.hv h k) else Bud.scan (Bud.wt l) (Bud.hv h) k from rfl)
  obtain ⟨f, ef⟩ : ∃ f, f = Bud.scan (Bud.wt l) (Bud.hv h) := ⟨_, rfl⟩
  rw [← ef] at HZ HN ⊢
  obtain ⟨n, en⟩ : ∃ n, n = l.length := ⟨_, rfl⟩
  have EN := Lib.hid en
  rw [← en] at hb ⊢
  clear hs hh hok ef en
  go_enter Try.func72, Try.ntmps72
  go_wp2
  go_loopw [5, 6, 12] (fun a b i wr => ∃ k : Nat, k ≤ n ∧ i = .int .i64 (k : Nat) ∧ a = .int .i64 (f k).1 ∧ b = .int .i64 (f k).2 ∧ Below w.heap.size w wr) (fun _ _ i _ => n - (intOf i).toNat)
  case atStart => exact ⟨0, by omega, rfl, by rw [HZ.out], by rw [HZ.out], Below.refl _ _⟩
  case round =>
    obtain ⟨k, hk, rfl, rfl, rfl, hB⟩ := hrel
    by_cases hlt : k < n
    · have hkl : k < l.length := by have := EN.out; omega
      obtain ⟨bq, off, rfl, hbw, _⟩ := HS.out.cells k hkl
      obtain ⟨c0, c1⟩ := HS.out.bc k hkl wr hB
      obtain ⟨o1, o2, o3⟩ := HOK.out.2 k hkl
      obtain ⟨bh, oh, rfl, hbh, hch⟩ := Sl.pos HH.out (by have := HOK.out.1; omega)
      have ch := hch k (by have := HOK.out.1; omega)
      have hn := HN.out k
      unfold Bud.wt at hn o2 o3
      unfold Bud.hv at hn o1 o2
      obtain ⟨⟨x0, x1⟩, ex⟩ : ∃ x, x = l[k]?.getD default := ⟨_, rfl⟩
      rw [← ex] at c0 c1 hn o2 o3
      simp only at c0 c1 hn o2 o3
      obtain ⟨y, ey⟩ : ∃ y, y = h[k]?.getD 0 := ⟨_, rfl⟩
      rw [← ey] at ch hn o1 o2
      have hA := hB.alloc hB.size (.cells #[.int .i64 x0, .int .i64 x1] 116)
      have ch2 : (wr.alloc (.cells #[.int .i64 x0, .int .i64 x1] 116)).cell? ⟨bh, oh + k, none⟩ = some (.int .i64 y) := (hA.cell (p := ⟨bh, _, none⟩) hbh).trans ch
      have HA := Lib.hid hA
      obtain ⟨s, es⟩ : ∃ s, s = f k := ⟨_, rfl⟩
      rw [← es] at hn ⊢
      obtain ⟨a, b⟩ := s
      simp only at hn ⊢
      have HN2 := Lib.hid hn
      have hkn : (k : Int) < n := by omega
      have hk0 : (0 : Int) ≤ k := by omega
      clear hB hA ex ey es hn ch hch hkl
      by_cases hc : b < x1 - y
      · have HN3 := Lib.hid (HN2.out.trans (if_pos hc))
        clear HN2
        go_wp2_with fail
        go_quiet (fail)
        go_wp2
        exact ⟨⟨k + 1, by omega, by go_num, by rw [HN3.out], by rw [HN3.out], below_drewN HA.out _⟩, by simp [intOf]; omega⟩
      · have HN3 := Lib.hid (HN2.out.trans (if_neg hc))
        clear HN2
        go_wp2_with fail
        go_quiet (fail)
        go_wp2
        exact ⟨⟨k + 1, by omega, by go_num, by rw [HN3.out], by rw [HN3.out], below_drewN HA.out _⟩, by simp [intOf]; omega⟩
    · obtain rfl : k = n := by omega
      have BF := Lib.hid hB
      clear hB
      go_wp2
      go_ret
      exact ⟨rfl, BF.out⟩
end Go.Proofs.Ytcanbagnehdbiaa
