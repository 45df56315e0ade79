/- Layer 11: the bytes of samples. -/
import Derived.Test.YtapgcbjlgekpeaaJPack
import Derived.Test.YtapgcbjlgekpeaaJKit
import Derived.Deep.CutRange
namespace Go.Proofs.Ytapgcbjlgekpeaa
open Go.ChangeShapes Go.WideShapes Go.ChangeAt Go.RowKit

def Pk.bytes (l : List Samp) : List Nat := if Pk.check l = 0 then Zig.put (Pk.nums l l.length) else []

theorem pack_put_bad (p : Option Addr) (cap : Nat) (l : List Samp) (hb : l.length ≤ 9223372036854775806) (hbad : Pk.check l ≠ 0) (w : World) (hs : Samps w p l) :
    Calls Try.prog 32 #[.slice p l.length cap] w fun e w' => e = .returned (.tuple #[.slice none 0 0, .int .i64 (Pk.check l)]) ∧ Below w.heap.size w w' := by
  have P1 := Lib.hid (pack_check p cap l hb w hs)
  obtain ⟨c, ec⟩ : ∃ c, c = Pk.check l := ⟨_, rfl⟩
  rw [← ec] at P1 hbad ⊢
  have hcb : (c != 0) = true := by simpa using hbad
  clear hs ec
  go_enter Try.func32, Try.ntmps32
  go_wp2_with fail
  (with_reducible refine P1.out.mono ?_)
  rintro e w1 ⟨rfl, hb1⟩
  have B1 := Lib.hid hb1
  clear hb1
  go_wp2
  go_ret2
  exact ⟨rfl, B1.out⟩

theorem two_ne {X Z y : Nat} {o o' : Obj} (h1 : y ≠ X) (h2 : y ≠ Z) : ∀ (i : Nat) (q : Obj), ([(X, o), (Z, o')] : List (Nat × Obj))[i]? ≠ some (y, q) := fun i q hi => by
  match i, hi with
  | 0, hi => simp at hi; exact h1 hi.1.symm
  | 1, hi => simp at hi; exact h2 hi.1.symm
  | i + 2, hi => simp at hi

set_option maxHeartbeats 1000000 in
set_option maxRecDepth 100000 in
theorem pack_put_good (p : Option Addr) (cap : Nat) (l : List Samp) (hl : ∀ a ∈ l, a.In) (hgood : Pk.check l = 0) (w : World) (hs : Samps w p l) :
    Calls Try.prog 32 #[.slice p l.length cap] w (RetOwnInt w 1 (Zig.put (Pk.nums l l.length)).length (byteVals (Zig.put (Pk.nums l l.length))) 0) := by
  have hlen := (Pk.check_all hgood).1
  have P1 := pack_check p cap l (by omega) w hs
  rw [hgood] at P1
  have PC := Lib.hid P1
  have HS := Lib.hid hs
  have HALL := Lib.hid (fun k hk => (Pk.check_all hgood).2 k hk)
  have HAHD := Lib.hid (fun k hk => Pk.ahead hl hgood k hk)
  have HIN := Lib.hid (fun k hk => Pk.in_at hl k hk)
  have HPUT := Lib.hid (fun (q : Option Addr) (d : Nat) (W : World) (h : Ints .i64 W q (Pk.nums l l.length)) => zig_put q d (Pk.nums l l.length) (Pk.nums_I64 hl hgood l.length (Nat.le_refl _)) (by rw [Pk.nums_len]; omega) W h)
  have HLEN := Lib.hid (Pk.nums_len l)
  have HAH := Lib.hid pack_ahead
  obtain ⟨n, en⟩ : ∃ n, n = l.length := ⟨_, rfl⟩
  have EN := Lib.hid en
  rw [← en] at hlen PC HPUT ⊢
  obtain ⟨bs, ebs⟩ : ∃ bs, bs = Zig.put (Pk.nums l n) := ⟨_, rfl⟩
  rw [← ebs] at HPUT ⊢
  clear hs en hl P1 hgood ebs
  go_enter Try.func32, Try.ntmps32
  go_wp2_with fail
  (with_reducible refine PC.out.mono ?_)
  rintro e w1 ⟨rfl, hb1⟩
  have B1 := Lib.hid hb1
  have O2 := Lib.hid (owns_alloc w1 #[.int .i64 n] 2 (B := w.heap.size) (sz := 1) (n := 1) hb1.size rfl)
  have M2 := Lib.hid (((Mem.start w).call hb1).alloc (.cells #[.int .i64 n] 2))
  clear hb1 PC
  go_wp2_with fail
  (with_reducible refine (HAH.out _).mono ?_)
  rintro e w3 ⟨rfl, hb3⟩
  have O3 := Lib.hid (O2.out.below hb3)
  have B3 := M2.out.below.trans (hb3.mono M2.out.below.size)
  have O4 := Lib.hid (O3.out.below (below1 w3 (.cells #[.int .i64 (-1), .int .i64 0] 23)))
  have M4 := Lib.hid (((Mem.start w).call B3).alloc (.cells #[.int .i64 (-1), .int .i64 0] 23))
  have hne : w1.heap.size ≠ w3.heap.size := by have := hb3.size; simp at this; omega
  clear hb3 B3 O2 M2 O3
  obtain ⟨X, hX⟩ : ∃ X, X = w3.heap.size := ⟨_, rfl⟩
  obtain ⟨Y, hY⟩ : ∃ X, X = w1.heap.size := ⟨_, rfl⟩
  rw [← hX, ← hY] at hne
  rw [← hX] at M4
  rw [← hY] at O4
  rw [← hY]
  clear hY
  go_wp2
  rw [← hX]
  clear hX
  go_loopw [5, 20] (fun v i wr => ∃ k : Nat, k ≤ n ∧ i = .int .i64 (k : Nat) ∧ Owns wr w.heap.size 1 v (2 * k + 1) (intVals (Pk.nums l k)) ∧ v.ownBlock ≠ some X ∧ Mem w wr [(X, .cells #[.int .i64 (Pk.pt l k), .int .i64 (Pk.pv l k)] 23)]) (fun _ i _ => n - (intOf i).toNat)
  case atStart => exact ⟨0, by omega, rfl, by have := O4.out; rw [EN.out] at this; exact this, fun e => hne (by simpa [Value.ownBlock] using e), M4.out⟩
  case round =>
    obtain ⟨k, hk, rfl, hO, hap, hM⟩ := hrel
    have OX := Lib.hid hO
    have AX := Lib.hid hap
    by_cases hlt : k < n
    · have hkl : k < l.length := by have := EN.out; omega
      obtain ⟨b, off, rfl, hbw, c0, c1⟩ := (HS.out.below hM.below).cells k hkl
      obtain ⟨t0, v0, p0⟩ := HALL.out k hkl
      obtain ⟨a1, a2, a3, a4⟩ := HAHD.out k (by omega)
      have t1 := (HIN.out k hkl).1.2
      have v1 := (HIN.out k hkl).2.2
      change _ = some (Value.int .i64 (Pk.at l k).tick) at c0
      change _ = some (Value.int .i64 (Pk.at l k).val) at c1
      have hnp : Pk.pt l (k + 1) = (Pk.at l k).tick ∧ Pk.pv l (k + 1) = (Pk.at l k).val := ⟨rfl, rfl⟩
      have hnn : Pk.nums l (k + 1) = Pk.nums l k ++ [(Pk.at l k).tick - Pk.pt l k - 1, (Pk.at l k).val - Pk.pv l k] := rfl
      obtain ⟨⟨tick, val⟩, ex⟩ : ∃ x, x = Pk.at l k := ⟨_, rfl⟩
      rw [← ex] at c0 c1 hnp hnn t0 v0 p0 t1 v1
      obtain ⟨pt, ept⟩ : ∃ x, x = Pk.pt l k := ⟨_, rfl⟩
      obtain ⟨pv, epv⟩ : ∃ x, x = Pk.pv l k := ⟨_, rfl⟩
      rw [← ept, ← epv] at hM hnn
      rw [← ept] at a1 a2 p0
      rw [← epv] at a3 a4
      simp only at c0 c1 hnp hnn t0 v0 p0 t1 v1
      have hd2 : wrap64 (wrap64 (tick - pt) - 1) = tick - pt - 1 := by unfold wrap64; omega
      obtain ⟨d1, ed1⟩ : ∃ d, d = wrap64 (tick - pt) := ⟨_, rfl⟩
      obtain ⟨d2, ed2⟩ : ∃ d, d = tick - pt - 1 := ⟨_, rfl⟩
      obtain ⟨d3, ed3⟩ : ∃ d, d = val - pv := ⟨_, rfl⟩
      rw [← ed1, ← ed2] at hd2
      have hd3 : wrap64 (val - pv) = d3 := by unfold wrap64; omega
      rw [← ed2, ← ed3] at hnn
      have HNP := Lib.hid hnp
      have HNN := Lib.hid hnn
      have M5 := Lib.hid (hM.alloc (.cells #[.int .i64 tick, .int .i64 val] 23))
      have O5 := Lib.hid (hO.below (below1 wr (.cells #[.int .i64 tick, .int .i64 val] 23)))
      have k0 := M5.out.cell 0 0 rfl rfl
      have k1 := M5.out.cell 0 1 rfl rfl
      have e1 := ed1.symm
      have hBW := M5.out.below
      have hXl : X < wr.heap.size := hM.lt (i := 0) rfl
      clear hO hap hM hnp hnn ex ept epv ed1 ed2 ed3 hkl M4 O4 t0 v0 p0 a1 a2 a3 a4 t1 v1 hbw
      have hALT : ∀ y, u5.ownBlock = some y → w.heap.size ≤ y ∧ y ≠ X ∧ y ≠ wr.heap.size := fun y hy => ⟨(OX.out.lt y hy).1, fun e => AX.out (e ▸ hy), fun e => by have := (OX.out.lt y hy).2; omega⟩
      have ALT := Lib.hid hALT
      obtain ⟨Z, hZ⟩ : ∃ Z, Z = wr.heap.size := ⟨_, rfl⟩
      have HXZ := Lib.hid (show X < Z by omega)
      rw [← hZ] at M5 ALT
      obtain ⟨W1, hW1⟩ : ∃ W, W = wr.alloc (.cells #[.int .i64 tick, .int .i64 val] 23) := ⟨_, rfl⟩
      have HSZ : Hid (W1.heap.size = Z + 1) := by show _ = _; rw [hW1, hZ]; simp
      rw [← hW1] at M5 O5 k0 k1 hBW
      have q0 := M5.out.cell 1 0 rfl rfl
      have q1 := M5.out.cell 1 1 rfl rfl
      have hmxl : 2 * k + 1 + 2 ≤ maxLen := by unfold maxLen; omega
      have hbyt : (2 * k + 1 + 2) * 8 ≤ 140737488355328 := by omega
      have hBS := Lib.hid hBW.size
      have HKN := Lib.hid (show k + 1 ≤ n by omega)
      have HKM := Lib.hid (show n - (k + 1) < n - k by omega)
      clear hALT hXl OX AX hBW hlt hlen hk
      go_upto_region 9 with fail
      rw [← hW1]
      try rw [← hZ]
      clear hW1 hZ c0 c1
      go_wp2_with (first | (at_builtin; refine wpList_append_newm rfl _ _ 72 rfl _ _ 2 rfl 2 w.heap.size 2 (.int .i64 0) 1 8 Try.underlying72 i64Info rfl (by decide) _ _ _ rfl O5.out rfl rfl (by simp [Value.oneCell']) hmxl hbyt hBS.out ?_; intro u1 x1 ha1 hg1 hc1 hw1; have M6 := Lib.hid (M5.out.grown hg1 (fun y hy => ⟨(ALT.out y hy).1, two_ne (ALT.out y hy).2.1 (ALT.out y hy).2.2⟩)); have HA1 := Lib.hid ha1; have HW1 := Lib.hid hw1; clear ha1 hg1 hc1 hw1) | ((with_reducible refine wpList_load_rowAs rfl 23 _ rfl (Z) ?_ 23 #[.int .i64 tick, .int .i64 val] (0, 0) _ 2 ?_ Try.underlying23 rfl (by kernel_rfl) ?_ ?_); exact rfl; exact M6.out.heap 1 rfl; exact rfl) | ((with_reducible refine wpList_store_rowAs rfl 23 _ _ rfl (X) #[.int .i64 tick, .int .i64 val] ?_ ?_ 23 #[.int .i64 pt, .int .i64 pv] 2 ?_ (by kernel_rfl) rfl rfl (by simp [Value.oneCell']) ?_); exact rfl; exact rfl; exact M6.out.heap 0 rfl))
      have M7 := (M6.out.setRow 0 rfl (cs := #[.int .i64 tick, .int .i64 val]))
      have hap : u1.ownBlock ≠ some X := by
        rcases HW1.out with h | h
        · rw [h]; intro e; exact (ALT.out X e).2.1 rfl
        · intro e; have := h X e; have := HSZ.out; have := HXZ.out; omega
      refine ⟨⟨k + 1, HKN.out, by go_num, ?_, hap, by rw [HNP.out.1, HNP.out.2]; exact M7.init⟩, ?_⟩
      · rw [HNN.out, intVals_append]
        exact HA1.out.setRowOther _ hap
      · have := HKM.out
        simp [intOf]
        omega
    · obtain rfl : k = n := by omega
      have hlen2 := HLEN.out k
      rw [← hlen2] at hO
      obtain ⟨q, d, rfl, _, hq⟩ := ints_of_owns hO
      have P := Lib.hid (HPUT.out q d wr hq)
      have B := Lib.hid hM.below
      obtain ⟨m, em⟩ : ∃ m, m = (Pk.nums l k).length := ⟨_, rfl⟩
      rw [← em] at P ⊢
      clear hO hap hM hlen2 hq em HPUT M4 O4 OX AX
      go_wp2_with fail
      refine P.out.mono ?_
      rintro e w9 ⟨u, rfl, hO, hB⟩
      have O9 := Lib.hid (hO.mono B.out.size)
      have B9 := Lib.hid (B.out.trans (hB.mono B.out.size))
      clear hO hB
      go_wp2
      go_ret2
      exact ⟨_, rfl, O9.out, B9.out⟩

theorem pack_put (p : Option Addr) (cap : Nat) (l : List Samp) (hb : l.length ≤ 9223372036854775806) (hl : ∀ a ∈ l, a.In) (w : World) (hs : Samps w p l) :
    Calls Try.prog 32 #[.slice p l.length cap] w (RetOwnInt w 1 (Pk.bytes l).length (byteVals (Pk.bytes l)) (Pk.check l)) := by
  by_cases h : Pk.check l = 0
  · have e : Pk.bytes l = Zig.put (Pk.nums l l.length) := if_pos h
    rw [e, h]
    exact pack_put_good p cap l hl h w hs
  · have e : Pk.bytes l = [] := if_neg h
    rw [e]
    refine (pack_put_bad p cap l hb h w hs).mono ?_
    rintro e w' ⟨rfl, hb⟩
    exact ⟨_, rfl, owns_nil _ _ _, hb⟩
theorem pack_size (p : Option Addr) (cap : Nat) (l : List Samp) (hb : l.length ≤ 9223372036854775806) (hl : ∀ a ∈ l, a.In) (w : World) (hs : Samps w p l) :
    Calls Try.prog 35 #[.slice p l.length cap] w fun e w' => e = .returned (.int .i64 ((Pk.bytes l).length : Nat)) ∧ Below w.heap.size w w' := by
  have P := Lib.hid (pack_put p cap l hb hl w hs)
  obtain ⟨n, en⟩ : ∃ n, n = l.length := ⟨_, rfl⟩
  obtain ⟨m, em⟩ : ∃ n, n = (Pk.bytes l).length := ⟨_, rfl⟩
  obtain ⟨c, ec⟩ : ∃ n, n = Pk.check l := ⟨_, rfl⟩
  rw [← en, ← em, ← ec] at P
  rw [← en, ← em]
  clear hs hl hb en em ec
  go_enter Try.func35, Try.ntmps35
  go_wp2_with fail
  refine P.out.mono ?_
  rintro e w1 ⟨v, rfl, hO, hB⟩
  obtain ⟨q, d, rfl, _⟩ := hO.sl
  have B := Lib.hid hB
  clear hO hB
  go_wp2
  go_ret
  exact ⟨rfl, B.out⟩
end Go.Proofs.Ytapgcbjlgekpeaa
