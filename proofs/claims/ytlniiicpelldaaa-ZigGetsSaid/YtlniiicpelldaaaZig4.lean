/- Layer 6's reference: Put, All, Same. -/
import Derived.Test.YtlniiicpelldaaaZig3
namespace Go.Proofs.Ytlniiicpelldaaa
open Go.ChangeShapes Go.WideShapes Go.ChangeAt Go.RowKit

set_option maxHeartbeats 1000000 in
set_option maxRecDepth 100000 in
theorem ref_zigPut (x : Int) (hx : I64 x) (w : World) : Calls Try.prog 72 #[.int .i64 x] w (RetOwn w 1 (Zig.bytes (Zig.zig x)).length (byteVals (Zig.bytes (Zig.zig x)))) := by
  have hz := ref_zig x hx
  have hzl := Zig.zig_lt x hx
  obtain ⟨z, ez⟩ : ∃ z, z = Zig.zig x := ⟨_, rfl⟩
  rw [← ez] at hz hzl ⊢
  have hbl := Zig.bytes_len64 z hzl
  have HZ := Lib.hid hz
  have HBL := Lib.hid hbl
  clear ez hz hbl
  go_enter Try.func72, Try.ntmps72
  go_wp2_with ((with_reducible refine (HZ.out _).mono ?_); rintro e w1 ⟨rfl, rfl⟩)
  go_loopw [3, 4] (fun i v wr => ∃ (pre : List Nat) (z' : Nat), i = .int .u64 z' ∧ z' ≤ z ∧ pre ++ Zig.bytes z' = Zig.bytes z ∧ Owns wr w.heap.size 1 v pre.length (byteVals pre) ∧ Below w.heap.size w wr) (fun i _ _ => (intOf i).toNat)
  case atStart => exact ⟨[], z, rfl, by omega, rfl, owns_nil _ _ _, Below.refl _ _⟩
  case round =>
    obtain ⟨pre, z', rfl, hz', hpre, hO, hB⟩ := hrel
    have HO2 := Lib.hid hO
    have HB2 := Lib.hid hB
    have HP := Lib.hid hpre
    have hpl : pre.length ≤ 9 := by
      have h1 := congrArg List.length hpre
      rw [List.length_append] at h1
      have h2 := HBL.out
      have h3 : 0 < (Zig.bytes z').length := by rw [Zig.bytes]; split <;> simp
      omega
    clear hO hB hpre
    by_cases hz1 : z' < 128
    · have hBW := HB2.out
      go_wp2_with (at_builtin; refine wpList_append_new rfl _ _ 46 rfl _ _ 5 rfl _ 5 (.int .u8 0) 1 1 Try.underlying46 u8Info rfl (by decide) _ _ _ rfl (HO2.out) rfl rfl (by intro u hu; simp at hu; first | (subst hu; rfl) | (rcases hu with hu | hu <;> (subst hu; rfl)) | (rcases hu with hu | hu | hu | hu | hu <;> (subst hu; rfl))) (by unfold maxLen; omega) (by omega) (Below.size (by assumption)) ?_; intro u1 x1 ha1 hg1 hc1)
      go_ret
      exact ⟨_, rfl, owns_byte ha1 rfl (by rw [← HP.out, Zig.bytes_last hz1]), HB2.out.trans (hc1.mono (by omega))⟩
    · have hBW := HB2.out
      go_wp2_with (at_builtin; refine wpList_append_new rfl _ _ 46 rfl _ _ 5 rfl _ 5 (.int .u8 0) 1 1 Try.underlying46 u8Info rfl (by decide) _ _ _ rfl (HO2.out) rfl rfl (by intro u hu; simp at hu; first | (subst hu; rfl) | (rcases hu with hu | hu <;> (subst hu; rfl)) | (rcases hu with hu | hu | hu | hu | hu <;> (subst hu; rfl))) (by unfold maxLen; omega) (by omega) (Below.size (by assumption)) ?_; intro u1 x1 ha1 hg1 hc1)
      have hdiv : z' / 128 < z' := by omega
      first
        | exact ⟨⟨pre ++ [z' % 128 + 128], z' / 128, rfl, by omega, by rw [List.append_assoc, ← HP.out, Zig.bytes_more hz1]; rfl, owns_byte (c := z' % 128 + 128) ha1 (by omega) rfl, HB2.out.trans (hc1.mono (by omega))⟩, by simp [intOf]; omega⟩
        | (go_roundw
           case rel => exact ⟨pre ++ [z' % 128 + 128], z' / 128, rfl, by omega, by rw [List.append_assoc, ← HP.out, Zig.bytes_more hz1]; rfl, owns_byte (c := z' % 128 + 128) ha1 (by omega) rfl, HB2.out.trans (hc1.mono (by omega))⟩
           case measure => simp [intOf]; omega)

/-- Whole numbers as values. -/
def intVals (l : List Int) : List Value := l.map fun n : Int => Value.int .i64 n
theorem intVals_len (l : List Int) : (intVals l).length = l.length := by simp [intVals]
theorem intVals_append (l m : List Int) : intVals (l ++ m) = intVals l ++ intVals m := by simp [intVals]

/-- What a call owns reads as whole numbers. -/
theorem ints_of_owns {w : World} {B : Nat} {v : Value} {l : List Int} (h : Owns w B 1 v l.length (intVals l)) : ∃ p cap, v = .slice p l.length cap ∧ l.length ≤ cap ∧ Ints .i64 w p l := by
  obtain ⟨p, cap, hv, hc, _, hs, _⟩ := h.sl
  refine ⟨p, cap, hv, hc, ?_⟩
  rcases hs with hs | ⟨b, off, hp, hb, hcell⟩
  · exact .inl hs
  · refine .inr ⟨b, off, hp, hb, fun j hj => ?_⟩
    rw [hcell j hj]
    have hj' : j < l.length := by omega
    simp [intVals, hj']
theorem bytes_of_owns {w : World} {B : Nat} {v : Value} {l : List Nat} (h : Owns w B 1 v l.length (byteVals l)) : ∃ p cap, v = .slice p l.length cap ∧ l.length ≤ cap ∧ Bytes w p l := by
  obtain ⟨p, cap, hv, hc, _, hs, _⟩ := h.sl
  refine ⟨p, cap, hv, hc, ?_⟩
  rcases hs with hs | ⟨b, off, hp, hb, hcell⟩
  · exact .inl hs
  · refine .inr ⟨b, off, hp, hb, fun j hj => ?_⟩
    rw [hcell j hj]
    have hj' : j < l.length := by omega
    simp [byteVals, hj']

/-- The same numbers. -/
theorem same_from {a b : List Int} {k : Nat} (hk : k = a.length) (hl : a.length = b.length) (h : ∀ j, j < k → a[j]?.getD 0 = b[j]?.getD 0) : a = b := by
  apply List.ext_getElem hl
  intro i h1 h2
  have := h i (by omega)
  simpa [h1, h2] using this

set_option maxHeartbeats 1000000 in
set_option maxRecDepth 100000 in
theorem ref_same (p q : Option Addr) (c d : Nat) (a b : List Int) (w : World) (ha : Ints .i64 w p a) (hb : Ints .i64 w q b) (la : a.length ≤ 9223372036854775807) (lb : b.length ≤ 9223372036854775807) :
    Calls Try.prog 50 #[.slice p a.length c, .slice q b.length d] w fun e w' => e = .returned (.bool (decide (a = b))) ∧ Below w.heap.size w w' := by
  have HA := Lib.hid ha
  have HB := Lib.hid hb
  have HYES : Hid (a = b → decide (a = b) = true) := fun h => decide_eq_true h
  have HNO : Hid (¬ a = b → decide (a = b) = false) := fun h => decide_eq_false h
  obtain ⟨r, hr⟩ : ∃ r, r = decide (a = b) := ⟨_, rfl⟩
  rw [← hr] at HYES HNO ⊢
  obtain ⟨n, hn⟩ : ∃ n, n = a.length := ⟨_, rfl⟩
  obtain ⟨m, hm⟩ : ∃ m, m = b.length := ⟨_, rfl⟩
  rw [← hn] at la ⊢
  rw [← hm] at lb ⊢
  have HN := Lib.hid hn
  have HM := Lib.hid hm
  clear ha hb hr hn hm
  by_cases hne : n = m
  · subst hne
    go_enter Try.func50, Try.ntmps50
    go_wp2
    go_loopw [5] (fun i wr => ∃ k : Nat, k ≤ n ∧ i = .int .i64 k ∧ (∀ j, j < k → a[j]?.getD 0 = b[j]?.getD 0) ∧ Below w.heap.size w wr) (fun i _ => n - (intOf i).toNat)
    case atStart => exact ⟨0, by omega, rfl, fun j hj => by omega, Below.refl _ _⟩
    case round =>
      obtain ⟨k, hk, rfl, hj, hBW⟩ := hrel
      have HJ := Lib.hid hj
      have HBW := Lib.hid hBW
      clear hj hBW
      by_cases hlt : k < n
      · obtain ⟨b1, o1, rfl, hb1, hc1⟩ := HA.out.pos (by have := HN.out; omega)
        obtain ⟨b2, o2, rfl, hb2, hc2⟩ := HB.out.pos (by have := HM.out; omega)
        have g1 := hc1 k (by have := HN.out; omega)
        have g2 := hc2 k (by have := HM.out; omega)
        rw [← HBW.out.cell (p := ⟨b1, o1 + k, none⟩) hb1] at g1
        rw [← HBW.out.cell (p := ⟨b2, o2 + k, none⟩) hb2] at g2
        have HX : Hid (a[k]?.getD 0 = b[k]?.getD 0 → ∀ j, j < k + 1 → a[j]?.getD 0 = b[j]?.getD 0) := fun h j hj => by
          by_cases e : j = k
          · rw [e]; exact h
          · exact HJ.out j (by omega)
        have HXN : Hid (¬ a[k]?.getD 0 = b[k]?.getD 0 → ¬ a = b) := fun h e => h (by rw [e])
        obtain ⟨x, ex⟩ : ∃ x, x = a[k]?.getD 0 := ⟨_, rfl⟩
        obtain ⟨y, ey⟩ : ∃ y, y = b[k]?.getD 0 := ⟨_, rfl⟩
        rw [← ex] at g1 HX HXN
        rw [← ey] at g2 HX HXN
        clear hc1 hc2 ex ey
        have i1 : (0 : Int) ≤ k := by omega
        have i2 : (k : Int) < n := by omega
        by_cases hxy : x = y
        · subst hxy
          have HX2 := Lib.hid (HX.out rfl)
          clear HX HXN
          go_wp2
          go_quiet (fail)
          go_wp2
          exact ⟨⟨k + 1, by omega, by go_num, HX2.out, below_drewN HBW.out nq⟩, by simp [intOf]; omega⟩
        · have HE := Lib.hid (HNO.out (HXN.out hxy))
          have hxb : (x == y) = false := beq_eq_false_iff_ne.2 hxy
          clear HX HXN
          go_wp2
          go_quiet (fail)
          go_wp2
          go_ret
          exact ⟨ret_bool HE.out.symm, below_drewN HBW.out _⟩
      · obtain rfl : k = n := by omega
        have HE := Lib.hid (HYES.out (same_from (k := k) HN.out (by rw [← HN.out, ← HM.out]) HJ.out))
        go_wp2
        go_ret
        exact ⟨ret_bool HE.out.symm, HBW.out⟩
  · have HE := Lib.hid (HNO.out (fun h => hne (by rw [HN.out, HM.out, h])))
    have hni : ¬ (n : Int) = m := by omega
    go_enter Try.func50, Try.ntmps50
    go_wp2
    go_ret
    exact ⟨ret_bool HE.out.symm, Below.refl _ _⟩

set_option maxHeartbeats 1000000 in
set_option maxRecDepth 100000 in
theorem ref_zigAll (p : Option Addr) (cap : Nat) (l : List Int) (hl : ∀ n ∈ l, I64 n) (hb : l.length ≤ 4096) (w : World) (hs : Ints .i64 w p l) :
    Calls Try.prog 49 #[.slice p l.length cap] w (RetOwn w 1 (Zig.put l).length (byteVals (Zig.put l))) := by
  have HS := Lib.hid hs
  have HL := Lib.hid hl
  have HLN := Lib.hid (Zig.put_len l hl)
  have HG : Hid (Zig.put (l.take l.length) = Zig.put l) := by show _ = _; rw [List.take_length]
  obtain ⟨r, hr⟩ : ∃ r, r = Zig.put l := ⟨_, rfl⟩
  rw [← hr] at HG ⊢
  obtain ⟨n, hn⟩ : ∃ n, n = l.length := ⟨_, rfl⟩
  rw [← hn] at HG hb ⊢
  have HN := Lib.hid hn
  clear hs hr hn hl
  go_enter Try.func49, Try.ntmps49
  go_wp2
  go_loopw [3, 4] (fun v i wr => ∃ k : Nat, k ≤ n ∧ i = .int .i64 k ∧ Owns wr w.heap.size 1 v (Zig.put (l.take k)).length (byteVals (Zig.put (l.take k))) ∧ Below w.heap.size w wr) (fun _ i _ => n - (intOf i).toNat)
  case atStart => exact ⟨0, by omega, rfl, owns_nil _ _ _, Below.refl _ _⟩
  case round =>
    obtain ⟨k, hk, rfl, hO, hB⟩ := hrel
    have HO := Lib.hid hO
    have HB := Lib.hid hB
    clear hO hB
    by_cases hlt : k < n
    · have hkl : k < l.length := by have := HN.out; omega
      obtain ⟨b, off, rfl, hbw, hc⟩ := HS.out.pos (by omega)
      have hcell := hc k (by omega)
      rw [← HB.out.cell (p := ⟨b, off + k, none⟩) hbw] at hcell
      have hi := HL.out (l[k]?.getD 0) (by rw [List.getElem?_eq_getElem hkl]; exact List.getElem_mem _)
      have hsn := Zig.put_snoc l k hkl
      have hln := HLN.out k (by omega)
      obtain ⟨x, ex⟩ : ∃ x, x = l[k]?.getD 0 := ⟨_, rfl⟩
      rw [← ex] at hcell hi hsn
      have hp := ref_zigPut x hi
      have hbl := Zig.bytes_len64 (Zig.zig x) (Zig.zig_lt x hi)
      obtain ⟨zs, ez⟩ : ∃ z, z = Zig.bytes (Zig.zig x) := ⟨_, rfl⟩
      rw [← ez] at hp hsn hbl
      have HSN := Lib.hid hsn
      have HP := Lib.hid hp
      obtain ⟨acc, eacc⟩ : ∃ acc, acc = Zig.put (l.take k) := ⟨_, rfl⟩
      rw [← eacc] at HO HSN hln
      clear hc ex ez hp hsn hi eacc hkl
      go_wp2_with fail
      (with_reducible refine (HP.out _).mono ?_)
      rintro e w1 ⟨v2, rfl, hO2, hB2⟩
      obtain ⟨q, c, rfl, hqc, hq0, _, hq⟩ := hO2.sl
      have HO2 := Lib.hid (HO.out.below hB2)
      have HB2 := Lib.hid (HB.out.trans (hB2.mono HB.out.size))
      have HQ := Lib.hid hq
      have HQ0 := Lib.hid hq0
      clear hO2 hB2 hq hq0 hcell
      go_wp2_with (at_builtin; refine wpList_append_any rfl _ _ 46 rfl w.heap.size 5 (.int .u8 0) 1 1 Try.underlying46 u8Info rfl (by decide) _ _ _ rfl HO2.out q zs.length c (byteVals zs) rfl (by rw [byteVals_len]; omega) HQ0.out HQ.out (by intro u hu; simp [byteVals] at hu; obtain ⟨_, _, rfl⟩ := hu; rfl) (by unfold maxLen; omega) (by omega) HB2.out.size ?_; intro u1 x1 ha1 hg1)
      exact ⟨⟨k + 1, by omega, by go_num, by rw [HSN.out, byteVals_append, List.length_append]; exact ha1, HB2.out.grown hg1 HB2.out.size (fun j hj => (HO2.out.lt j hj).1)⟩, by simp [intOf]; omega⟩
    · obtain rfl : k = n := by omega
      rw [HG.out] at HO
      go_wp2
      go_ret
      exact ⟨_, rfl, HO.out, HB.out⟩
end Go.Proofs.Ytlniiicpelldaaa
