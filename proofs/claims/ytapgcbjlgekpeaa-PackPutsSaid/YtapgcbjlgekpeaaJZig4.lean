/- Layer 6's reference: Put, All, Same. -/
import Derived.Test.YtapgcbjlgekpeaaJZig3
import Derived.Test.YtapgcbjlgekpeaaJStat
namespace Go.Proofs.Ytapgcbjlgekpeaa
open Go.ChangeShapes Go.WideShapes Go.ChangeAt Go.RowKit

set_option maxHeartbeats 1000000 in
set_option maxRecDepth 100000 in
theorem ref_zigPut (x : Int) (hx : I64 x) (w : World) : Calls Try.prog 102 #[.int .i64 x] w (RetOwn w 1 (Zig.bytes (Zig.zig x)).length (byteVals (Zig.bytes (Zig.zig x)))) := by
  have hz := ref_zig x hx
  have hzl := Zig.zig_lt x hx
  obtain ⟨z, ez⟩ : ∃ z, z = Zig.zig x := ⟨_, rfl⟩
  rw [← ez] at hz hzl ⊢
  have hbl := Zig.bytes_len64 z hzl
  have HZ := Lib.hid hz
  have HBL := Lib.hid hbl
  clear ez hz hbl
  go_enter Try.func102, Try.ntmps102
  go_wp2_with ((with_reducible refine (HZ.out _).mono ?_); rintro e w1 ⟨rfl, rfl⟩)
  go_loopw [3, 4] (fun i v wr => ∃ (pre : List Nat) (z' : Nat), i = .int .u64 z' ∧ z' ≤ z ∧ pre ++ Zig.bytes z' = Zig.bytes z ∧ Owns wr w.heap.size 1 v pre.length (byteVals pre) ∧ Below w.heap.size w wr) (fun i _ _ => (intOf i).toNat)
  case atStart => exact ⟨[], z, rfl, by omega, rfl, owns_nil _ _ _, Below.refl _ _⟩
  case round =>
    obtain ⟨pre, z', rfl, hz', hpre, hO, hB⟩ := hrel
    have HO2 := Lib.hid hO
    have HB2 := Lib.hid hB
    have HP := Lib.hid hpre
    have hpl : pre.length ≤ 9 := by
      have h1 := congrArg List.length hpre
      rw [List.length_append] at h1
      have h2 := HBL.out
      have h3 : 0 < (Zig.bytes z').length := by rw [Zig.bytes]; split <;> simp
      omega
    clear hO hB hpre
    by_cases hz1 : z' < 128
    · have hBW := HB2.out
      go_wp2_with (at_builtin; refine wpList_append_new rfl _ _ 62 rfl _ _ 5 rfl _ 5 (.int .u8 0) 1 1 Try.underlying62 u8Info rfl (by decide) _ _ _ rfl (HO2.out) (by first | rfl | (rw [World.size_alloc]; rfl)) rfl (by first | (simp [Value.oneCell']; done) | (intro u hu; simp at hu; subst hu; rfl)) (by unfold maxLen; omega) (by omega) (Below.size (by assumption)) ?_; intro u1 x1 ha1 hg1 hc1)
      go_ret
      exact ⟨_, rfl, owns_byte ha1 rfl (by rw [← HP.out, Zig.bytes_last hz1]), HB2.out.trans (hc1.mono (by omega))⟩
    · have hBW := HB2.out
      go_wp2_with (at_builtin; refine wpList_append_new rfl _ _ 62 rfl _ _ 5 rfl _ 5 (.int .u8 0) 1 1 Try.underlying62 u8Info rfl (by decide) _ _ _ rfl (HO2.out) (by first | rfl | (rw [World.size_alloc]; rfl)) rfl (by first | (simp [Value.oneCell']; done) | (intro u hu; simp at hu; subst hu; rfl)) (by unfold maxLen; omega) (by omega) (Below.size (by assumption)) ?_; intro u1 x1 ha1 hg1 hc1)
      have hdiv : z' / 128 < z' := by omega
      first
        | exact ⟨⟨pre ++ [z' % 128 + 128], z' / 128, rfl, by omega, by rw [List.append_assoc, ← HP.out, Zig.bytes_more hz1]; rfl, owns_byte (c := z' % 128 + 128) ha1 (by omega) rfl, HB2.out.trans (hc1.mono (by omega))⟩, by simp [intOf]; omega⟩
        | (go_roundw
           case rel => exact ⟨pre ++ [z' % 128 + 128], z' / 128, rfl, by omega, by rw [List.append_assoc, ← HP.out, Zig.bytes_more hz1]; rfl, owns_byte (c := z' % 128 + 128) ha1 (by omega) rfl, HB2.out.trans (hc1.mono (by omega))⟩
           case measure => simp [intOf]; omega)

theorem bytes_of_owns {w : World} {B : Nat} {v : Value} {l : List Nat} (h : Owns w B 1 v l.length (byteVals l)) : ∃ p cap, v = .slice p l.length cap ∧ l.length ≤ cap ∧ Bytes w p l := by
  obtain ⟨p, cap, hv, hc, _, hs, _⟩ := h.sl
  refine ⟨p, cap, hv, hc, ?_⟩
  rcases hs with hs | ⟨b, off, hp, hb, hcell⟩
  · exact .inl hs
  · refine .inr ⟨b, off, hp, hb, fun j hj => ?_⟩
    rw [hcell j hj]
    have hj' : j < l.length := by omega
    simp [byteVals, hj']

end Go.Proofs.Ytapgcbjlgekpeaa
