/- Layer 27: who goes on next, and how many are not done: the program's. -/
import Derived.Test.YtldhbgefpfmkmaaJSched2
namespace Go.Proofs.Ytldhbgefpfmkmaa
open Go.ChangeShapes Go.WideShapes Go.ChangeAt Go.RowKit

/-- A task as a value: none, or a toy's block. -/
def Tk.val : Option Nat → Value
  | none => .nilIface
  | some b => .iface 160 (.pointer (some ⟨b, 0, none⟩))
def Toy.row (t : Toy) (c : Nat) : Obj := .cells #[.int .i64 t.left, .int .i64 t.gap, .int .i64 t.phase, .pointer (some ⟨c, 0, none⟩)] 162 (0, 0)
/-- n tasks that lie in a slice: their blocks, a clock. -/
structure Tasks (w : World) (q : Option Addr) (n : Nat) (bs : Nat → Option Nat) (T : Nat → Toy) (c : Nat) (used : Int) : Prop where
  sl : Sl w q n 1 (fun j => Tk.val (bs j))
  toy : ∀ i b, i < n → bs i = some b → w.heap[b]? = some (Toy.row (T i) c)
  clock : w.heap[c]? = some (.cells #[.int .i64 used] 159 (0, 0))
  apart : ∀ i j b, i < n → j < n → bs i = some b → bs j = some b → i = j
  off : ∀ i b, i < n → bs i = some b → b ≠ c ∧ ∀ ad, q = some ad → ad.block ≠ b
  offc : ∀ ad, q = some ad → ad.block ≠ c
  nil : ∀ i, i < n → bs i = none → (T i).left < 1
section
variable {w w' : World} {q : Option Addr} {n : Nat} {bs : Nat → Option Nat} {T : Nat → Toy} {c : Nat} {used : Int}
theorem Tasks.below (h : Tasks w q n bs T c used) (hb : Below w.heap.size w w') : Tasks w' q n bs T c used :=
  ⟨Sl.below h.sl hb, fun i b hi e => (hb.block _ (lt_of_heap (h.toy i b hi e))).trans (h.toy i b hi e), (hb.block _ (lt_of_heap h.clock)).trans h.clock, h.apart, h.off, h.offc, h.nil⟩
theorem stab_tasks : Stab (fun w' => Tasks w' q n bs T c used) := fun _ _ h hb => h.below hb
end
structure Tk.Fine (n : Nat) (T : Nat → Toy) (used : Int) : Prop where
  In : ∀ i, i < n → (T i).In
  ph : ∀ i, i < n → 0 ≤ (T i).phase ∧ (T i).phase ≤ 1000
  u0 : 0 ≤ used
  u1 : used ≤ 100000

section
variable {w : World} {q : Option Addr} {n : Nat} {bs : Nat → Option Nat} {T : Nat → Toy} {c : Nat} {used : Int}
theorem over_any (h : Tasks w q n bs T c used) (i : Nat) (hi : i < n) : Calls Try.prog 90 #[Tk.val (bs i)] w fun e w' => e = .returned (.bool (decide ((T i).left < 1))) ∧ w = w' := by
  cases hb : bs i with
  | none =>
    have := h.nil i hi hb
    rw [decide_eq_true this]
    exact over_nil w
  | some b => exact over_toy b (T i) _ w (h.toy i b hi hb)

set_option maxHeartbeats 2000000 in
set_option maxRecDepth 100000 in
theorem sched_next (h : Tasks w q n bs T c used) (hf : Tk.Fine n T used) (hn : n ≤ 1000) (cap : Nat) (pick : Int) (hp : I64 pick) :
    Calls Try.prog 47 #[.slice q n cap, .int .i64 pick] w fun e w' => e = .returned (.int .i64 (Tk.next n T used pick)) ∧ Below w.heap.size w w' := by
  have F := Lib.hid (sched_first pick hp n (by omega))
  have H := Lib.hid h
  have HF := Lib.hid hf
  have hfi := fun h0 : 0 < n => Tk.first_in pick h0
  have hne : Tk.next n T used pick = match Tk.found n T used (Tk.first pick n).toNat n with | some x => (x : Int) | none => -1 := rfl
  obtain ⟨r, er⟩ : ∃ r, r = Tk.next n T used pick := ⟨_, rfl⟩
  obtain ⟨a, ea⟩ : ∃ a, a = Tk.first pick n := ⟨_, rfl⟩
  rw [← er] at hne ⊢
  rw [← ea] at F hne
  simp only [← ea] at hfi
  have HNE := Lib.hid hne
  have HFI := Lib.hid hfi
  have hp1 := hp.1
  have hp2 := hp.2
  clear er ea hne hfi h hf hp
  go_enter Try.func47, Try.ntmps47
  go_wp2
  go_loopw [10] (fun i wr => ∃ k : Nat, k ≤ n ∧ i = .int .i64 (k : Nat) ∧ Tk.found n T used a.toNat k = none ∧ Below w.heap.size w wr) (fun i _ => n - (intOf i).toNat)
  case atStart => exact ⟨0, by omega, rfl, rfl, Below.refl _ _⟩
  case round =>
    obtain ⟨k, hk, rfl, hno, hB⟩ := hrel
    by_cases hlt : k < n
    · obtain ⟨ha0, ha1⟩ := HFI.out (by omega)
      obtain ⟨an, rfl⟩ : ∃ an : Nat, a = an := ⟨a.toNat, by omega⟩
      have hfn := Tk.found_next hno
      simp only [Int.toNat_natCast] at hfn hno HNE
      obtain ⟨m, em⟩ : ∃ m, m = (an + k) % n := ⟨_, rfl⟩
      rw [← em] at hfn
      have hml : m < n := by rw [em]; exact Nat.mod_lt _ (by omega)
      have hmi : ((an : Int) + (k : Int)) % (n : Int) = (m : Nat) := by rw [em, Int.natCast_emod, Int.natCast_add]
      have HT := H.out.below hB
      obtain ⟨bq, off, rfl, hbw, hc⟩ := Sl.pos HT.sl (by omega)
      have cm := hc m (by omega)
      have hnn : (n : Int) ≠ 0 := by omega
      have hk0 : (k : Int) < n := by omega
      have O := Lib.hid (over_any HT m hml)
      have HB := Lib.hid hB
      have HFN := Lib.hid hfn
      have HTS := Lib.hid HT
      have hmk : k < n := hlt
      by_cases ho : (T m).left < 1
      · rw [decide_eq_true ho] at O
        have hnr : Toy.ready (T m) used = false := by unfold Toy.ready; rw [if_pos ho]
        cases hb : bs m with
        | none =>
          rw [hb] at cm O
          change wr.cell? ⟨bq, off + m, none⟩ = some Value.nilIface at cm
          have O : Hid (Calls Try.prog 90 #[.nilIface] wr _) := O
          have hno2 : Tk.found n T used an (k + 1) = none := by rw [HFN.out, hnr]; rfl
          have HNO := Lib.hid hno2
          clear hc hfn hno em HT hB hno2 hnr ho hb
          go_wp2_with (first | ((with_reducible refine (F.out _).mono ?_); rintro e w1 ⟨rfl, rfl⟩) | ((with_reducible refine O.out.mono ?_); rintro e w1 ⟨rfl, rfl⟩))
          exact ⟨⟨k + 1, by omega, by go_num, by simpa using HNO.out, HB.out⟩, by simp [intOf]; omega⟩
        | some b =>
          rw [hb] at cm O
          change wr.cell? ⟨bq, off + m, none⟩ = some (Value.iface 160 (.pointer (some ⟨b, 0, none⟩))) at cm
          have O : Hid (Calls Try.prog 90 #[.iface 160 (.pointer (some ⟨b, 0, none⟩))] wr _) := O
          have hno2 : Tk.found n T used an (k + 1) = none := by rw [HFN.out, hnr]; rfl
          have HNO := Lib.hid hno2
          clear hc hfn hno em HT hB hno2 hnr ho hb
          go_wp2_with (first | ((with_reducible refine (F.out _).mono ?_); rintro e w1 ⟨rfl, rfl⟩) | ((with_reducible refine O.out.mono ?_); rintro e w1 ⟨rfl, rfl⟩))
          exact ⟨⟨k + 1, by omega, by go_num, by simpa using HNO.out, HB.out⟩, by simp [intOf]; omega⟩
      · rw [decide_eq_false ho] at O
        cases hb : bs m with
        | none => exact absurd (HT.nil m hml hb) ho
        | some b =>
          rw [hb] at cm O
          change wr.cell? ⟨bq, off + m, none⟩ = some (Value.iface 160 (.pointer (some ⟨b, 0, none⟩))) at cm
          have O : Hid (Calls Try.prog 90 #[.iface 160 (.pointer (some ⟨b, 0, none⟩))] wr _) := O
          have R := Lib.hid (toy_ready b c (T m) (HF.out.In m hml) (HF.out.ph m hml).1 (HF.out.ph m hml).2 used HF.out.u0 HF.out.u1 wr (HT.toy m b hml hb) HT.clock)
          have hm := fun (n : Nat) (w : World) => m_ready n b w
          cases hr : Toy.ready (T m) used with
          | false =>
            rw [hr] at R
            have hno2 : Tk.found n T used an (k + 1) = none := by rw [HFN.out, hr]; rfl
            have HNO := Lib.hid hno2
            clear hc hfn hno em HT hB hno2 hr ho hb
            go_wp2_with (first | ((with_reducible refine (F.out _).mono ?_); rintro e w1 ⟨rfl, rfl⟩) | ((with_reducible refine O.out.mono ?_); rintro e w1 ⟨rfl, rfl⟩))
            (with_reducible refine R.out.mono ?_)
            rintro e w2 ⟨rfl, hb2⟩
            have HB2 := Lib.hid (HB.out.trans (hb2.mono HB.out.size))
            clear hb2
            go_wp2
            exact ⟨⟨k + 1, by omega, by go_num, by simpa using HNO.out, HB2.out⟩, by simp [intOf]; omega⟩
          | true =>
            rw [hr] at R
            have hre : r = m := by
              have h1 : Tk.found n T used an (k + 1) = some m := by rw [HFN.out, hr]; rfl
              have h2 := Tk.found_up h1 (n - (k + 1))
              rw [show k + 1 + (n - (k + 1)) = n by omega] at h2
              rw [HNE.out, h2]
            have HRE := Lib.hid hre
            clear hc hfn hno em HT hB hre hr ho hb
            go_wp2_with (first | ((with_reducible refine (F.out _).mono ?_); rintro e w1 ⟨rfl, rfl⟩) | ((with_reducible refine O.out.mono ?_); rintro e w1 ⟨rfl, rfl⟩))
            (with_reducible refine R.out.mono ?_)
            rintro e w2 ⟨rfl, hb2⟩
            have HB2 := Lib.hid (HB.out.trans (hb2.mono HB.out.size))
            clear hb2
            go_wp2
            go_ret
            exact ⟨ret_int HRE.out.symm, HB2.out⟩
    · obtain rfl : k = n := by omega
      have hre : r = -1 := by rw [HNE.out, hno]
      have HRE := Lib.hid hre
      have HB := Lib.hid hB
      clear hre hno hB
      go_wp2
      go_ret
      exact ⟨ret_int HRE.out.symm, HB.out⟩

def Tk.open' (T : Nat → Toy) : Nat → Int
  | 0 => 0
  | k + 1 => if (T k).left < 1 then Tk.open' T k else Tk.open' T k + 1
theorem Tk.open_in (T : Nat → Toy) : ∀ k, 0 ≤ Tk.open' T k ∧ Tk.open' T k ≤ k
  | 0 => ⟨Int.le_refl _, Int.le_refl _⟩
  | k + 1 => by
    have := Tk.open_in T k
    unfold Tk.open'
    split <;> omega

set_option maxHeartbeats 1000000 in
set_option maxRecDepth 100000 in
theorem sched_open (h : Tasks w q n bs T c used) (hn : n ≤ 1000) (cap : Nat) :
    Calls Try.prog 44 #[.slice q n cap] w fun e w' => e = .returned (.int .i64 (Tk.open' T n)) ∧ w = w' := by
  have H := Lib.hid h
  have HO := Lib.hid (fun k => show Tk.open' T (k + 1) = if (T k).left < 1 then Tk.open' T k else Tk.open' T k + 1 from rfl)
  have HI := Lib.hid (Tk.open_in T)
  have H0 : Hid (Tk.open' T 0 = 0) := rfl
  obtain ⟨f, ef⟩ : ∃ f, f = Tk.open' T := ⟨_, rfl⟩
  simp only [← ef] at HO HI H0 ⊢
  clear ef h
  go_enter Try.func44, Try.ntmps44
  go_wp2
  go_loopw [3, 8] (fun s i wr => ∃ k : Nat, k ≤ n ∧ i = .int .i64 (k : Nat) ∧ s = .int .i64 (f k) ∧ w = wr) (fun _ i _ => n - (intOf i).toNat)
  case atStart => exact ⟨0, by omega, rfl, by rw [H0.out], rfl⟩
  case round =>
    obtain ⟨k, hk, rfl, rfl, rfl⟩ := hrel
    by_cases hlt : k < n
    · obtain ⟨bq, off, rfl, hbw, hc⟩ := Sl.pos H.out.sl (by omega)
      have cm := hc k (by omega)
      have O := Lib.hid (over_any H.out k hlt)
      have hi := HI.out k
      have ho := HO.out k
      have hkn : (k : Int) < n := by omega
      obtain ⟨s, es⟩ : ∃ s, s = f k := ⟨_, rfl⟩
      rw [← es] at hi ho ⊢
      obtain ⟨v, ev⟩ : ∃ v, v = Tk.val (bs k) := ⟨_, rfl⟩
      change w.cell? ⟨bq, off + k, none⟩ = some (Tk.val (bs k)) at cm
      rw [← ev] at cm O
      by_cases hl : (T k).left < 1
      · rw [if_pos hl] at ho
        rw [decide_eq_true hl] at O
        have HS := Lib.hid ho
        cases hb : bs k with
        | none =>
          rw [hb] at ev
          subst ev
          change w.cell? ⟨bq, off + k, none⟩ = some Value.nilIface at cm
          have O : Hid (Calls Try.prog 90 #[.nilIface] w _) := O
          clear hc ho hl es hb
          go_wp2_with ((with_reducible refine O.out.mono ?_); rintro e w1 ⟨rfl, rfl⟩)
          exact ⟨⟨k + 1, by omega, by go_num, by rw [HS.out], by trivial⟩, by simp [intOf]; omega⟩
        | some b =>
          rw [hb] at ev
          subst ev
          change w.cell? ⟨bq, off + k, none⟩ = some (Value.iface 160 (.pointer (some ⟨b, 0, none⟩))) at cm
          have O : Hid (Calls Try.prog 90 #[.iface 160 (.pointer (some ⟨b, 0, none⟩))] w _) := O
          clear hc ho hl es hb
          go_wp2_with ((with_reducible refine O.out.mono ?_); rintro e w1 ⟨rfl, rfl⟩)
          exact ⟨⟨k + 1, by omega, by go_num, by rw [HS.out], by trivial⟩, by simp [intOf]; omega⟩
      · rw [if_neg hl] at ho
        rw [decide_eq_false hl] at O
        have HS := Lib.hid ho
        cases hb : bs k with
        | none => exact absurd (H.out.nil k hlt hb) hl
        | some b =>
          rw [hb] at ev
          subst ev
          change w.cell? ⟨bq, off + k, none⟩ = some (Value.iface 160 (.pointer (some ⟨b, 0, none⟩))) at cm
          have O : Hid (Calls Try.prog 90 #[.iface 160 (.pointer (some ⟨b, 0, none⟩))] w _) := O
          clear hc ho hl es hb
          go_wp2_with ((with_reducible refine O.out.mono ?_); rintro e w1 ⟨rfl, rfl⟩)
          exact ⟨⟨k + 1, by omega, by go_num, by rw [HS.out], by trivial⟩, by simp [intOf]; omega⟩
    · obtain rfl : k = n := by omega
      go_wp2
      go_ret
      exact ⟨rfl, rfl⟩
end
end Go.Proofs.Ytldhbgefpfmkmaa
