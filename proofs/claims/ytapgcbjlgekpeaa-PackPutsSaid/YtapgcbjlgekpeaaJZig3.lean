/- Layer 6: Put. -/
import Derived.Test.YtapgcbjlgekpeaaJZig2
namespace Go.Proofs.Ytapgcbjlgekpeaa
open Go.ChangeShapes Go.WideShapes Go.ChangeAt Go.RowKit

/-- A call that hands back a slice of its own, and turns nothing that was there. -/
def RetOwn (w : World) (sz n : Nat) (xs : List Value) (e : Ending) (w' : World) : Prop := ∃ v, e = .returned v ∧ Owns w' w.heap.size sz v n xs ∧ Below w.heap.size w w'

/-- The bytes of a word: seven bits each, the lowest first. -/
def Zig.bytes (w : Nat) : List Nat := if w < 128 then [w] else (w % 128 + 128) :: Zig.bytes (w / 128)
termination_by w
decreasing_by omega

theorem Zig.bytes_last {w : Nat} (h : w < 128) : Zig.bytes w = [w] := by rw [Zig.bytes, if_pos h]
theorem Zig.bytes_more {w : Nat} (h : ¬ w < 128) : Zig.bytes w = (w % 128 + 128) :: Zig.bytes (w / 128) := by rw [Zig.bytes, if_neg h]
theorem Zig.bytes_len : ∀ (k w : Nat), w < 2 ^ (7 * (k + 1)) → (Zig.bytes w).length ≤ k + 1
  | 0, w, h => by rw [Zig.bytes_last (by simpa using h)]; simp
  | k + 1, w, h => by
    by_cases hw : w < 128
    · rw [Zig.bytes_last hw]; simp
    · have : (2 : Nat) ^ (7 * (k + 1 + 1)) = 2 ^ (7 * (k + 1)) * 128 := by rw [show 7 * (k + 1 + 1) = 7 * (k + 1) + 7 by omega, Nat.pow_add]
      rw [Zig.bytes_more hw, List.length_cons]
      have := Zig.bytes_len k (w / 128) (by omega)
      omega
theorem Zig.bytes_len64 (w : Nat) (h : w < 18446744073709551616) : (Zig.bytes w).length ≤ 10 := Zig.bytes_len 9 w (by omega)
theorem Zig.bytes_byte : ∀ (k w : Nat), w < 2 ^ (7 * (k + 1)) → ∀ n ∈ Zig.bytes w, n < 256
  | 0, w, h, n, hn => by
    rw [Zig.bytes_last (by simpa using h)] at hn
    simp at hn h
    omega
  | k + 1, w, h, n, hn => by
    by_cases hw : w < 128
    · rw [Zig.bytes_last hw] at hn
      simp at hn
      omega
    · have : (2 : Nat) ^ (7 * (k + 1 + 1)) = 2 ^ (7 * (k + 1)) * 128 := by rw [show 7 * (k + 1 + 1) = 7 * (k + 1) + 7 by omega, Nat.pow_add]
      rw [Zig.bytes_more hw] at hn
      rcases List.mem_cons.1 hn with h1 | h1
      · omega
      · exact Zig.bytes_byte k (w / 128) (by omega) n h1

/-- The bytes of numbers. -/
def Zig.put (l : List Int) : List Nat := l.flatMap fun n => Zig.bytes (Zig.zig n)
theorem Zig.put_snoc (l : List Int) (k : Nat) (h : k < l.length) : Zig.put (l.take (k + 1)) = Zig.put (l.take k) ++ Zig.bytes (Zig.zig (l[k]?.getD 0)) := by
  unfold Zig.put
  rw [List.take_succ_eq_append_getElem h, List.flatMap_append, List.getElem?_eq_getElem h]
  simp
theorem Zig.put_len (l : List Int) (hl : ∀ n ∈ l, I64 n) : ∀ k, k ≤ l.length → (Zig.put (l.take k)).length ≤ 10 * k
  | 0, _ => by simp [Zig.put]
  | k + 1, h => by
    have h1 := Zig.put_len l hl k (by omega)
    have h2 := Zig.bytes_len64 (Zig.zig (l[k]?.getD 0)) (Zig.zig_lt _ (hl _ (by rw [List.getElem?_eq_getElem (by omega)]; exact List.getElem_mem _)))
    rw [Zig.put_snoc l k (by omega), List.length_append]
    omega

theorem Zig.more_byte (w : Nat) : bits .or .u8 ((w : Int) % 256) 128 = ((w % 128 + 128 : Nat) : Int) := by
  have h1 : (w : Int) % 256 = ((w % 256 : Nat) : Int) := by omega
  have h2 : ∀ y, y < 256 → y ||| 128 = y % 128 + 128 := by decide +kernel
  have h3 := u8_or_nat (w % 256) 128 (by omega) (by omega)
  rw [h2 _ (by omega)] at h3
  rw [h1]
  refine Eq.trans h3 ?_
  omega
theorem owns_byte {w : World} {B : Nat} {v : Value} {xs ys : List Nat} {d : Int} {c : Nat} (h : Owns w B 1 v (xs.length + 1) (byteVals xs ++ (#[Value.int .u8 d] : Array Value).toList)) (hd : d = c) (hy : ys = xs ++ [c]) : Owns w B 1 v ys.length (byteVals ys) := by
  subst hy hd
  rw [byteVals_append, List.length_append]
  exact h

set_option maxHeartbeats 1000000 in
set_option maxRecDepth 100000 in
theorem zig_put (p : Option Addr) (cap : Nat) (l : List Int) (hl : ∀ n ∈ l, I64 n) (hb : l.length ≤ 4096) (w : World) (hs : Ints .i64 w p l) :
    Calls Try.prog 97 #[.slice p l.length cap] w (RetOwn w 1 (Zig.put l).length (byteVals (Zig.put l))) := by
  have HS := Lib.hid hs
  have HL := Lib.hid hl
  have HLN := Lib.hid (Zig.put_len l hl)
  have HG : Hid (Zig.put (l.take l.length) = Zig.put l) := by show _ = _; rw [List.take_length]
  obtain ⟨r, hr⟩ : ∃ r, r = Zig.put l := ⟨_, rfl⟩
  rw [← hr] at HG ⊢
  obtain ⟨n, hn⟩ : ∃ n, n = l.length := ⟨_, rfl⟩
  rw [← hn] at HG hb ⊢
  have HN := Lib.hid hn
  clear hs hr hn hl
  go_enter Try.func97, Try.ntmps97
  go_wp2
  go_loopw [3, 9] (fun v i wr => ∃ k : Nat, k ≤ n ∧ i = .int .i64 k ∧ Owns wr w.heap.size 1 v (Zig.put (l.take k)).length (byteVals (Zig.put (l.take k))) ∧ Below w.heap.size w wr) (fun _ i _ => n - (intOf i).toNat)
  case atStart => exact ⟨0, by omega, rfl, owns_nil _ _ _, Below.refl _ _⟩
  case round =>
    obtain ⟨k, hk, rfl, hO, hB⟩ := hrel
    have HO := Lib.hid hO
    have HB := Lib.hid hB
    clear hO hB
    by_cases hlt : k < n
    · have hkl : k < l.length := by have := HN.out; omega
      obtain ⟨b, off, rfl, hbw, hc⟩ := HS.out.pos (by omega)
      have hcell := hc k (by omega)
      rw [← HB.out.cell (p := ⟨b, off + k, none⟩) hbw] at hcell
      have hi := HL.out (l[k]?.getD 0) (by rw [List.getElem?_eq_getElem hkl]; exact List.getElem_mem _)
      have hsn := Zig.put_snoc l k hkl
      have hln := HLN.out k (by omega)
      obtain ⟨x, ex⟩ : ∃ x, x = l[k]?.getD 0 := ⟨_, rfl⟩
      rw [← ex] at hcell hi hsn
      have hz := zig_zig x hi
      have hzl := Zig.zig_lt x hi
      obtain ⟨z, ez⟩ : ∃ z, z = Zig.zig x := ⟨_, rfl⟩
      rw [← ez] at hz hzl hsn
      have hbl := Zig.bytes_len64 z hzl
      have HSN := Lib.hid hsn
      have HZ := Lib.hid hz
      have HBL := Lib.hid hbl
      obtain ⟨acc, eacc⟩ : ∃ acc, acc = Zig.put (l.take k) := ⟨_, rfl⟩
      rw [← eacc] at HO HSN hln
      clear hc ex ez hz hsn hi hbl eacc hkl
      go_wp2_with ((with_reducible refine (HZ.out _).mono ?_); rintro e w1 ⟨rfl, rfl⟩)
      obtain ⟨wo, ewo⟩ : ∃ wo : World, wo = wr := ⟨_, rfl⟩
      rw [← ewo] at HO HB hcell ⊢
      clear ewo
      go_loopw [3, 6] (fun v i wr => ∃ (pre : List Nat) (z' : Nat), i = .int .u64 z' ∧ z' ≤ z ∧ pre ++ Zig.bytes z' = Zig.bytes z ∧ Owns wr w.heap.size 1 v (acc ++ pre).length (byteVals (acc ++ pre)) ∧ Below w.heap.size w wr) (fun _ i _ => (intOf i).toNat)
      case atStart => exact ⟨[], z, rfl, by omega, rfl, by rw [List.append_nil]; exact HO.out, HB.out⟩
      case round =>
        obtain ⟨pre, z', rfl, hz', hpre, hO, hB⟩ := hrel
        have HO2 := Lib.hid hO
        have HB2 := Lib.hid hB
        have HP := Lib.hid hpre
        have hpl : pre.length ≤ 9 := by
          have h1 := congrArg List.length hpre
          rw [List.length_append] at h1
          have h2 := HBL.out
          have h3 : 0 < (Zig.bytes z').length := by rw [Zig.bytes]; split <;> simp
          omega
        have hal : (acc ++ pre).length ≤ 50000 := by rw [List.length_append]; omega
        clear hO hB hpre
        by_cases hz1 : z' < 128
        · have hBW := HB2.out
          go_wp2_with (at_builtin; refine wpList_append_new rfl _ _ 62 rfl _ _ 5 rfl _ 5 (.int .u8 0) 1 1 Try.underlying62 u8Info rfl (by decide) _ _ _ rfl (HO2.out) (by first | rfl | (rw [World.size_alloc]; rfl)) rfl (by first | (simp [Value.oneCell']; done) | (intro u hu; simp at hu; subst hu; rfl)) (by unfold maxLen; omega) (by omega) (Below.size (by assumption)) ?_; intro u1 x1 ha1 hg1 hc1)
          exact ⟨⟨k + 1, by omega, by go_num, owns_byte ha1 rfl (by rw [HSN.out, ← HP.out, Zig.bytes_last hz1, List.append_assoc]), HB2.out.trans (hc1.mono (by omega))⟩, by simp [intOf]; omega⟩
        · have hB8 := Zig.more_byte z'
          have hBW := HB2.out
          go_wp2_with (at_builtin; refine wpList_append_new rfl _ _ 62 rfl _ _ 5 rfl _ 5 (.int .u8 0) 1 1 Try.underlying62 u8Info rfl (by decide) _ _ _ rfl (HO2.out) (by first | rfl | (rw [World.size_alloc]; rfl)) rfl (by first | (simp [Value.oneCell']; done) | (intro u hu; simp at hu; subst hu; rfl)) (by unfold maxLen; omega) (by omega) (Below.size (by assumption)) ?_; intro u1 x1 ha1 hg1 hc1)
          have hdiv : z' / 128 < z' := by omega
          exact ⟨⟨pre ++ [z' % 128 + 128], z' / 128, rfl, by omega, by rw [List.append_assoc, ← HP.out, Zig.bytes_more hz1]; rfl, owns_byte (c := z' % 128 + 128) ha1 (by omega) (by rw [List.append_assoc]), HB2.out.trans (hc1.mono (by omega))⟩, by simp [intOf]; omega⟩
    · obtain rfl : k = n := by omega
      rw [HG.out] at HO
      go_wp2
      go_ret
      exact ⟨_, rfl, HO.out, HB.out⟩
end Go.Proofs.Ytapgcbjlgekpeaa
