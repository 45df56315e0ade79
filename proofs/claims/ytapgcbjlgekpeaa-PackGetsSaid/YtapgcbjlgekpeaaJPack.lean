/- Layer 11: what is wrong with samples. -/
import Derived.Test.YtapgcbjlgekpeaaJPackD
import Derived.Test.YtapgcbjlgekpeaaJBase
import Derived.Test.YtapgcbjlgekpeaaJSer
namespace Go.Proofs.Ytapgcbjlgekpeaa
open Go.ChangeShapes Go.WideShapes Go.ChangeAt Go.RowKit

theorem pack_ahead (w : World) : Calls Try.prog 96 #[] w fun e w' => e = .returned (.agg #[.int .i64 (-1), .int .i64 0]) ∧ Below w.heap.size w w' := by
  go_enter Try.func96, Try.ntmps96
  go_wp2
  exact bodyPost_ret (results_cell_row rfl _ _ w.heap.size 23 #[.int .i64 (-1), .int .i64 0] (0, 0) _ rfl (heap_alloc_at _ _ _ rfl) Try.underlying23 rfl (by kernel_rfl)) rfl ⟨rfl, below1 _ _⟩

set_option maxHeartbeats 1000000 in
set_option maxRecDepth 100000 in
theorem pack_check (p : Option Addr) (cap : Nat) (l : List Samp) (hb : l.length ≤ 9223372036854775806) (w : World) (hs : Samps w p l) :
    Calls Try.prog 34 #[.slice p l.length cap] w fun e w' => e = .returned (.int .i64 (Pk.check l)) ∧ Below w.heap.size w w' := by
  by_cases h256 : 256 < l.length
  · have hc : Pk.check l = 12 := if_pos h256
    rw [hc]
    obtain ⟨n, en⟩ : ∃ n, n = l.length := ⟨_, rfl⟩
    rw [← en] at h256 hb ⊢
    clear en hs hc
    have d : decide ((256 : Int) < n) = true := decide_eq_true (by omega)
    go_enter Try.func34, Try.ntmps34
    go_wp2
    go_ret
    exact ⟨rfl, Below.refl _ _⟩
  have HS := Lib.hid hs
  have HSTOP := Lib.hid (fun (k : Nat) => Pk.check_stop (l := l) (k := k) h256)
  have HFINE := Lib.hid (Pk.check_fine (l := l) h256)
  have HAH := Lib.hid pack_ahead
  obtain ⟨r, er⟩ : ∃ r, r = Pk.check l := ⟨_, rfl⟩
  rw [← er] at HFINE ⊢
  simp only [← er] at HSTOP
  obtain ⟨n, en⟩ : ∃ n, n = l.length := ⟨_, rfl⟩
  have EN := Lib.hid en
  rw [← en] at h256 hb HFINE ⊢
  simp only [← en] at HSTOP
  clear hs en er
  have d : decide ((256 : Int) < n) = false := decide_eq_false (by omega)
  go_enter Try.func34, Try.ntmps34
  go_wp2_with fail
  (with_reducible refine (HAH.out _).mono ?_)
  rintro e w1 ⟨rfl, hb1⟩
  have M1 := Lib.hid (((Mem.start w).call hb1).alloc (.cells #[.int .i64 (-1), .int .i64 0] 23))
  clear hb1
  obtain ⟨X, hX⟩ : ∃ X, X = w1.heap.size := ⟨_, rfl⟩
  rw [← hX] at M1
  go_wp2
  rw [← hX]
  clear hX
  go_loopw [13] (fun i wr => ∃ k : Nat, k ≤ n ∧ i = .int .i64 (k : Nat) ∧ Pk.upto l k = 0 ∧ Mem w wr [(X, .cells #[.int .i64 (Pk.pt l k), .int .i64 (Pk.pv l k)] 23)]) (fun i _ => n - (intOf i).toNat)
  case atStart => exact ⟨0, by omega, rfl, rfl, M1.out⟩
  case round =>
    obtain ⟨k, hk, rfl, hup, hM⟩ := hrel
    by_cases hlt : k < n
    · have hkl : k < l.length := by have := EN.out; omega
      obtain ⟨b, off, rfl, hbw, c0, c1⟩ := (HS.out.below hM.below).cells k hkl
      have hone : Pk.one l k = if Ser.code (Pk.at l k) = 0 then (if (Pk.at l k).tick ≤ Pk.pt l k then 15 else 0) else Ser.code (Pk.at l k) := rfl
      have hst := HSTOP.out k hlt hup
      have hnx := Pk.upto_next hup
      have hnp : Pk.pt l (k + 1) = (Pk.at l k).tick ∧ Pk.pv l (k + 1) = (Pk.at l k).val := ⟨rfl, rfl⟩
      have hR := ser_right (Pk.at l k)
      change _ = some (Value.int .i64 (Pk.at l k).tick) at c0
      change _ = some (Value.int .i64 (Pk.at l k).val) at c1
      obtain ⟨cd, ecd⟩ : ∃ c, c = Ser.code (Pk.at l k) := ⟨_, rfl⟩
      simp only [← ecd] at hone hR
      obtain ⟨⟨tick, val⟩, ex⟩ : ∃ x, x = Pk.at l k := ⟨_, rfl⟩
      rw [← ex] at c0 c1 hone hnp
      simp only [← ex] at hR
      obtain ⟨pt, ept⟩ : ∃ x, x = Pk.pt l k := ⟨_, rfl⟩
      obtain ⟨pv, epv⟩ : ∃ x, x = Pk.pv l k := ⟨_, rfl⟩
      rw [← ept] at hone
      rw [← ept, ← epv] at hM
      obtain ⟨o, eo⟩ : ∃ x, x = Pk.one l k := ⟨_, rfl⟩
      rw [← eo] at hone hst hnx
      have HONE := Lib.hid hone
      have HST := Lib.hid hst
      have HNX := Lib.hid hnx
      have HNP := Lib.hid hnp
      have HR := Lib.hid hR
      have M2 := Lib.hid (hM.alloc (.cells #[.int .i64 tick, .int .i64 val] 23))
      have k0 := M2.out.cell 0 0 rfl rfl
      have K1 := Lib.hid (M2.out.heap 1 rfl)
      have K0 := Lib.hid (M2.out.heap 0 rfl)
      clear hM hone hst hnx hnp hR ecd ex ept epv eo hkl M1
      by_cases hc : cd = 0
      · subst hc
        by_cases hle : tick ≤ pt
        · have HF := Lib.hid ((HST.out (by rw [HONE.out, if_pos rfl, if_pos hle]; decide)).trans (HONE.out.trans ((if_pos rfl).trans (if_pos hle))))
          clear HONE HST HNX
          go_wp2_with ((with_reducible refine (HR.out _).mono ?_); rintro e w5 ⟨rfl, rfl⟩)
          go_ret
          exact ⟨by rw [HF.out]; rfl, M2.out.below⟩
        · have HF := Lib.hid (HNX.out.trans (HONE.out.trans ((if_pos rfl).trans (if_neg hle))))
          clear HONE HST HNX
          go_wp2_with (first | ((with_reducible refine (HR.out _).mono ?_); rintro e w5 ⟨rfl, rfl⟩) | ((with_reducible refine wpList_load_rowAs rfl 23 _ rfl (wr.heap.size) ?_ 23 #[.int .i64 tick, .int .i64 val] (0, 0) _ 2 ?_ Try.underlying23 rfl (by kernel_rfl) ?_ ?_); exact rfl; exact K1.out; exact rfl) | ((with_reducible refine wpList_store_rowAs rfl 23 _ _ rfl (X) #[.int .i64 tick, .int .i64 val] ?_ ?_ 23 #[.int .i64 pt, .int .i64 pv] 2 ?_ (by kernel_rfl) rfl rfl (by simp [Value.oneCell']) ?_); exact rfl; exact rfl; exact K0.out))
          have M3 := (M2.out.setRow 0 rfl (cs := #[.int .i64 tick, .int .i64 val]))
          exact ⟨⟨k + 1, by omega, by go_num, HF.out, by rw [HNP.out.1, HNP.out.2]; exact M3.init⟩, by simp [intOf]; omega⟩
      · have hcb : (cd != 0) = true := by simpa using hc
        have HF := Lib.hid ((HST.out (by rw [HONE.out, if_neg hc]; exact hc)).trans (HONE.out.trans (if_neg hc)))
        clear HONE HST HNX
        go_wp2_with ((with_reducible refine (HR.out _).mono ?_); rintro e w5 ⟨rfl, rfl⟩)
        go_ret
        exact ⟨by rw [HF.out]; rfl, M2.out.below⟩
    · obtain rfl : k = n := by omega
      have HF := Lib.hid (HFINE.out hup)
      have B := Lib.hid hM.below
      clear hup hM
      go_wp2
      go_ret
      exact ⟨by rw [HF.out]; rfl, B.out⟩
end Go.Proofs.Ytapgcbjlgekpeaa
