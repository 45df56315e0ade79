/- Layer 6: All, and the reference's Read. -/
import Derived.Test.YtapgcbjlgekpeaaJZig4
namespace Go.Proofs.Ytapgcbjlgekpeaa
open Go.ChangeShapes Go.WideShapes Go.ChangeAt Go.RowKit

/-- What is read of bytes, behind what was read already. -/
def Zig.run : Nat → List Int → List Nat → List Int × Nat
  | 0, acc, _ => (acc, 0)
  | f + 1, acc, l => if l.length = 0 then (acc, 0) else if (Zig.get l).2.2 = 0 then Zig.run f (acc ++ [(Zig.get l).1]) (l.drop (Zig.get l).2.1) else ([], (Zig.get l).2.2)
def Zig.all (l : List Nat) : List Int × Nat := Zig.run l.length [] l

theorem Zig.scan_le (l : List Nat) : ∀ (f i v : Nat), (Zig.scan l f i v).2.2 ≤ 2 ∧ ((Zig.scan l f i v).2.2 = 0 → i + 1 ≤ (Zig.scan l f i v).2.1 ∧ (Zig.scan l f i v).2.1 ≤ l.length)
  | 0, i, v => by simp [Zig.scan]
  | f + 1, i, v => by
    by_cases h : i < l.length
    · by_cases hw : i = 9 ∧ 1 < l[i]?.getD 0 ∨ 0 < i ∧ l[i]?.getD 0 = 0
      · rw [Zig.scan_wrong l f i v h hw]; simp
      · by_cases hc : l[i]?.getD 0 < 128
        · rw [Zig.scan_last l f i v h hw hc]; simp; omega
        · rw [Zig.scan_more l f i v h hw hc]
          have := Zig.scan_le l f (i + 1) (v + l[i]?.getD 0 % 128 * 2 ^ (7 * i))
          exact ⟨this.1, fun h0 => by have := this.2 h0; omega⟩
    · rw [Zig.scan_end l (f + 1) i v h]; simp
theorem Zig.get_le (l : List Nat) : (Zig.get l).2.2 ≤ 2 ∧ ((Zig.get l).2.2 = 0 → 1 ≤ (Zig.get l).2.1 ∧ (Zig.get l).2.1 ≤ l.length) := by
  have := Zig.scan_le l (l.length + 1) 0 0
  exact ⟨this.1, fun h => by have := this.2 h; exact ⟨by unfold Zig.get; omega, by unfold Zig.get; omega⟩⟩

theorem Zig.run_end (f : Nat) (acc : List Int) (l : List Nat) (h : l.length = 0) : Zig.run f acc l = (acc, 0) := by
  cases f with
  | zero => rfl
  | succ f => rw [Zig.run, if_pos h]
theorem Zig.run_bad (f : Nat) (acc : List Int) (l : List Nat) (h : l.length ≠ 0) (he : (Zig.get l).2.2 ≠ 0) : Zig.run (f + 1) acc l = ([], (Zig.get l).2.2) := by
  rw [Zig.run, if_neg h, if_neg he]
theorem Zig.run_more (f : Nat) (acc : List Int) (l : List Nat) (h : l.length ≠ 0) (he : (Zig.get l).2.2 = 0) : Zig.run (f + 1) acc l = Zig.run f (acc ++ [(Zig.get l).1]) (l.drop (Zig.get l).2.1) := by
  rw [Zig.run, if_neg h, if_pos he]

theorem Zig.errno_ne {e : Nat} (h : e ≤ 2) : (e = 0 ↔ Zig.errno e = 0) := by
  match e, h with
  | 0, _ => simp [Zig.errno]
  | 1, _ => simp [Zig.errno]
  | 2, _ => simp [Zig.errno]

/-- A call that hands back a slice of its own and a number. -/
def RetOwnInt (w : World) (sz n : Nat) (xs : List Value) (k : Int) (e : Ending) (w' : World) : Prop := ∃ v, e = .returned (.tuple #[v, .int .i64 k]) ∧ Owns w' w.heap.size sz v n xs ∧ Below w.heap.size w w'

theorem Zig.scan_I64 (l : List Nat) : ∀ (f i v : Nat), (∀ n ∈ l, n < 256) → i ≤ 9 → v < 2 ^ (7 * i) → I64 (Zig.scan l f i v).1
  | 0, i, v, _, _, _ => by simp [Zig.scan, I64]
  | f + 1, i, v, hl, h9, hv => by
    by_cases h : i < l.length
    · by_cases hw : i = 9 ∧ 1 < l[i]?.getD 0 ∨ 0 < i ∧ l[i]?.getD 0 = 0
      · rw [Zig.scan_wrong l f i v h hw]; simp [I64]
      · have hq : (2 : Nat) ^ (7 * i) ≤ 2 ^ 63 := Nat.pow_le_pow_right (by omega) (by omega)
        have hc256 : l[i]?.getD 0 < 256 := by rw [List.getElem?_eq_getElem h]; exact hl _ (List.getElem_mem _)
        have hq2 : i ≤ 8 → (2 : Nat) ^ (7 * i) ≤ 2 ^ 56 := fun h => Nat.pow_le_pow_right (by omega) (by omega)
        have hp : (2 : Nat) ^ (7 * (i + 1)) = 2 ^ (7 * i) * 128 := by rw [show 7 * (i + 1) = 7 * i + 7 by omega, Nat.pow_add]
        have h1 : l[i]?.getD 0 % 128 * 2 ^ (7 * i) ≤ 127 * 2 ^ (7 * i) := Nat.mul_le_mul_right _ (by omega)
        have hm : v + l[i]?.getD 0 % 128 * 2 ^ (7 * i) < 18446744073709551616 := by
          by_cases h9' : i = 9
          · have h2 : l[i]?.getD 0 % 128 * 2 ^ (7 * i) ≤ 1 * 2 ^ (7 * i) := Nat.mul_le_mul_right _ (by omega)
            omega
          · have := hq2 (by omega)
            omega
        by_cases hc : l[i]?.getD 0 < 128
        · rw [Zig.scan_last l f i v h hw hc]
          exact Zig.zag_I64 _ (by rw [Nat.mod_eq_of_lt hc] at hm; exact hm)
        · rw [Zig.scan_more l f i v h hw hc]
          exact Zig.scan_I64 l f (i + 1) _ hl (by omega) (by omega)
    · rw [Zig.scan_end l (f + 1) i v h]; simp [I64]
theorem Zig.get_I64 (l : List Nat) (hl : ∀ n ∈ l, n < 256) : I64 (Zig.get l).1 := Zig.scan_I64 l _ 0 0 hl (by omega) (by simp)

/-- What is left of bytes. -/
theorem Bytes.rest {w : World} {b off : Nat} {l : List Nat} (h : Bytes w (some ⟨b, off, none⟩) l) (k : Nat) (hk : k ≤ l.length) : Bytes w (some ⟨b, off + k, none⟩) (l.drop k) := by
  rcases h with h | ⟨b', off', hp, hlt, hc⟩
  · left; simp; omega
  · cases hp
    right
    refine ⟨b, off + k, rfl, hlt, fun j hj => ?_⟩
    have := hc (k + j) (by simp at hj; omega)
    rw [Nat.add_assoc, this]
    simp

set_option maxHeartbeats 1000000 in
set_option maxRecDepth 100000 in
theorem zig_all (p : Option Addr) (cap : Nat) (l : List Nat) (w : World) (hs : Bytes w p l) (hl : ∀ n ∈ l, n < 256) (hc : l.length ≤ cap) (hb : l.length ≤ 100000) :
    Calls Try.prog 99 #[.slice p l.length cap] w (RetOwnInt w 1 (Zig.all l).1.length (intVals (Zig.all l).1) (Zig.errno (Zig.all l).2)) := by
  have HS := Lib.hid hs
  have HL := Lib.hid hl
  have HG : Hid (Zig.run l.length [] l = Zig.all l) := rfl
  obtain ⟨r, hr⟩ : ∃ r, r = Zig.all l := ⟨_, rfl⟩
  rw [← hr] at HG ⊢
  obtain ⟨n, hn⟩ : ∃ n, n = l.length := ⟨_, rfl⟩
  rw [← hn] at HG hb hc ⊢
  have HN := Lib.hid hn
  clear hs hr hn hl
  go_enter Try.func99, Try.ntmps99
  go_wp2
  go_loopw [0, 4] (fun s v wr => ∃ (rest : List Nat) (q : Option Addr) (c : Nat) (acc : List Int) (f : Nat), rest.length ≤ f ∧ s = .slice q rest.length c ∧ rest.length ≤ c ∧ Bytes w q rest ∧ (∀ n ∈ rest, n < 256) ∧ acc.length + rest.length ≤ n ∧ Zig.run f acc rest = r ∧ Owns wr w.heap.size 1 v acc.length (intVals acc) ∧ Below w.heap.size w wr)
    (fun s _ _ => match s with | .slice _ k _ => k | _ => 0)
  case atStart => exact ⟨l, p, cap, [], n, by rw [HN.out]; exact Nat.le_refl _, by rw [HN.out], by have := HN.out; omega, HS.out, HL.out, by have := HN.out; simp; omega, HG.out, owns_nil _ _ _, Below.refl _ _⟩
  case round =>
    obtain ⟨rest, q, c, acc, f, hf, rfl, hcc, hby, hlt, hlen, hrun, hO, hB⟩ := hrel
    have HO := Lib.hid hO
    have HB := Lib.hid hB
    have HLT := Lib.hid hlt
    have HBY := Lib.hid hby
    clear hO hB hlt hby
    by_cases h0 : rest.length = 0
    · have HE := Lib.hid (Zig.run_end f acc rest h0)
      rw [hrun] at HE
      rw [h0] at hcc
      rw [h0]
      clear hrun h0
      go_wp2
      go_ret2
      exact ⟨_, by rw [HE.out]; rfl, by rw [HE.out]; exact HO.out, HB.out⟩
    · have hget := zig_get q c rest wr (Sl.below HBY.out HB.out) HLT.out (by omega)
      have hle := Zig.get_le rest
      have hr1 := Zig.run_bad (f - 1) acc rest h0
      have hr2 := Zig.run_more (f - 1) acc rest h0
      rw [show f - 1 + 1 = f by omega, hrun] at hr1 hr2
      have hi1 := Zig.get_I64 rest (fun n hn => HLT.out n hn)
      obtain ⟨g, hg⟩ : ∃ g, g = Zig.get rest := ⟨_, rfl⟩
      rw [← hg] at hget hle hr1 hr2 hi1
      obtain ⟨x, u, e⟩ := g
      have hen := Zig.errno_ne hle.1
      simp only at hget hle hr1 hr2 hi1 hen
      have HGET := Lib.hid hget
      obtain ⟨m, em⟩ : ∃ m, m = rest.length := ⟨_, rfl⟩
      rw [← em] at HGET h0 hcc hlen hf hle ⊢
      have HEM := Lib.hid em
      clear hget hg em hrun
      by_cases he : e = 0
      · have HE := Lib.hid (hr2 he)
        obtain ⟨hu1, hu2⟩ := hle.2 he
        subst he
        have hget0 := HGET.out
        rw [show Zig.errno 0 = 0 from rfl] at hget0
        have HGET0 := Lib.hid hget0
        have hBW := HB.out
        clear hr1 hr2 hle hen hget0 HGET
        go_wp2_with fail
        (with_reducible refine HGET0.out.mono ?_)
        rintro e w1 ⟨rfl, rfl⟩
        by_cases hcu : c = u
        · go_wp2_with (at_builtin; refine wpList_append_new rfl _ _ 72 rfl _ _ 2 rfl _ 2 (.int .i64 0) 1 8 Try.underlying72 i64Info rfl (by decide) _ _ _ rfl (HO.out) (by first | rfl | (rw [World.size_alloc]; rfl)) rfl (by first | (simp [Value.oneCell']; done) | (intro u hu; simp at hu; subst hu; rfl)) (by unfold maxLen; omega) (by omega) (Below.size (by assumption)) ?_; intro u1 x1 ha1 hg1 hc1)
          have hd : (rest.drop u).length = 0 := by rw [List.length_drop, ← HEM.out]; omega
          exact ⟨⟨rest.drop u, q, 0, acc ++ [x], f - 1, by omega, by rw [hd, show m - u = 0 by omega], by omega, .inl hd, fun n hn => HLT.out n (List.mem_of_mem_drop hn), by rw [List.length_append, hd]; simp; omega, HE.out.symm, by rw [intVals_append, List.length_append]; exact ha1, HB.out.trans hc1⟩, by simp; omega⟩
        · obtain ⟨b, off, rfl, hbw, _⟩ := HBY.out.pos (by have := HEM.out; omega)
          go_wp2_with (at_builtin; refine wpList_append_new rfl _ _ 72 rfl _ _ 2 rfl _ 2 (.int .i64 0) 1 8 Try.underlying72 i64Info rfl (by decide) _ _ _ rfl (HO.out) (by first | rfl | (rw [World.size_alloc]; rfl)) rfl (by first | (simp [Value.oneCell']; done) | (intro u hu; simp at hu; subst hu; rfl)) (by unfold maxLen; omega) (by omega) (Below.size (by assumption)) ?_; intro u1 x1 ha1 hg1 hc1)
          have hd : (rest.drop u).length = m - u := by rw [List.length_drop, ← HEM.out]
          exact ⟨⟨rest.drop u, some ⟨b, off + u, none⟩, c - u, acc ++ [x], f - 1, by omega, by rw [hd], by omega, HBY.out.rest u (by have := HEM.out; omega), fun n hn => HLT.out n (List.mem_of_mem_drop hn), by rw [List.length_append, hd]; simp; omega, HE.out.symm, by rw [intVals_append, List.length_append]; exact ha1, HB.out.trans hc1⟩, by simp; omega⟩
      · have HE := Lib.hid (hr1 he)
        have hne : ¬ Zig.errno e = 0 := fun h => he (hen.2 h)
        obtain ⟨z, ez⟩ : ∃ z, z = Zig.errno e := ⟨_, rfl⟩
        rw [← ez] at hne HGET
        have EZ := Lib.hid ez
        clear hr1 hr2 hle hen ez
        go_wp2_with fail
        (with_reducible refine HGET.out.mono ?_)
        rintro e w1 ⟨rfl, rfl⟩
        go_wp2
        go_ret2
        exact ⟨.slice none 0 0, by rw [HE.out, EZ.out]; rfl, by rw [HE.out]; exact owns_nil _ _ _, HB.out⟩

theorem Zig.run_at (f : Nat) (acc : List Int) (l : List Nat) (k : Nat) (hk : k < l.length) (e : (Zig.get (l.drop k)).2.2 = 0) : Zig.run (f + 1) acc (l.drop k) = Zig.run f (acc ++ [(Zig.get (l.drop k)).1]) (l.drop (k + (Zig.get (l.drop k)).2.1)) := by
  rw [Zig.run_more f acc (l.drop k) (by simp; omega) e, List.drop_drop]

set_option maxHeartbeats 1000000 in
set_option maxRecDepth 100000 in
theorem ref_read (p : Option Addr) (cap : Nat) (l : List Nat) (w : World) (hs : Bytes w p l) (hl : ∀ n ∈ l, n < 256) (hc : l.length ≤ cap) (hb : l.length ≤ 100000) :
    Calls Try.prog 39 #[.slice p l.length cap] w (RetOwnInt w 1 (Zig.all l).1.length (intVals (Zig.all l).1) ((Zig.all l).2 : Nat)) := by
  have HS := Lib.hid hs
  have HL := Lib.hid hl
  have HG : Hid (Zig.run l.length [] l = Zig.all l) := rfl
  obtain ⟨r, hr⟩ : ∃ r, r = Zig.all l := ⟨_, rfl⟩
  rw [← hr] at HG ⊢
  obtain ⟨n, hn⟩ : ∃ n, n = l.length := ⟨_, rfl⟩
  rw [← hn] at HG hb hc ⊢
  have HN := Lib.hid hn
  clear hs hr hn hl
  go_enter Try.func39, Try.ntmps39
  go_wp2
  go_loopw [4, 5] (fun v i wr => ∃ (k : Nat) (acc : List Int) (f : Nat), n ≤ f + k ∧ k ≤ n ∧ i = .int .i64 k ∧ acc.length ≤ k ∧ Zig.run f acc (l.drop k) = r ∧ Owns wr w.heap.size 1 v acc.length (intVals acc) ∧ Below w.heap.size w wr)
    (fun _ i _ => n - (intOf i).toNat)
  case atStart => exact ⟨0, [], n, by omega, by omega, rfl, by simp, HG.out, owns_nil _ _ _, Below.refl _ _⟩
  case round =>
    obtain ⟨k, acc, f, hf, hk, rfl, hlen, hrun, hO, hB⟩ := hrel
    have HO := Lib.hid hO
    have HB := Lib.hid hB
    clear hO hB
    by_cases hlt : k < n
    · obtain ⟨b, off, rfl, hbw, _⟩ := HS.out.pos (by have := HN.out; omega)
      have hgl : (l.drop k).length = n - k := by rw [List.length_drop, ← HN.out]
      have hrest := HS.out.rest k (by have := HN.out; omega)
      have hget : ∀ c, Calls Try.prog 103 #[.slice (some ⟨b, off + k, none⟩) (l.drop k).length c] wr _ := fun c => ref_get (some ⟨b, off + k, none⟩) c (l.drop k) wr (Sl.below hrest HB.out) (fun n hn => HL.out n (List.mem_of_mem_drop hn)) (by omega)
      have hle := Zig.get_le (l.drop k)
      have hr1 := Zig.run_bad (f - 1) acc (l.drop k) (by omega)
      have hr2 := Zig.run_at (f - 1) acc l k (by have := HN.out; omega)
      rw [show f - 1 + 1 = f by omega, hrun] at hr1 hr2
      have hi1 := Zig.get_I64 (l.drop k) (fun n hn => HL.out n (List.mem_of_mem_drop hn))
      rw [hgl] at hle
      rw [hgl] at hget
      obtain ⟨g, hg⟩ : ∃ g, g = Zig.get (l.drop k) := ⟨_, rfl⟩
      rw [← hg] at hget hle hr1 hr2 hi1
      obtain ⟨x, u, e⟩ := g
      simp only at hget hle hr1 hr2 hi1
      have HGET := Lib.hid hget
      have HSUB : Hid (((n - k : Nat) : Int) = n - k) := by show ((n - k : Nat) : Int) = _; omega
      clear hget hg hrest hgl hrun
      by_cases he : e = 0
      · have HE := Lib.hid (hr2 he)
        obtain ⟨hu1, hu2⟩ := hle.2 he
        subst he
        have hget0 : ∀ c, Calls Try.prog 103 #[.slice (some ⟨b, off + k, none⟩) (n - k) c] wr fun e w' => e = .returned (.tuple #[.int .i64 x, .int .i64 u, .int .i64 0]) ∧ wr = w' := HGET.out
        have HGET0 := Lib.hid hget0
        have hBW := HB.out
        clear hr1 hr2 hle hget0 HGET
        have hck : ¬ cap = k := by omega
        go_wp2_with fail
        (with_reducible refine (HGET0.out _).mono ?_)
        rintro e w1 ⟨rfl, rfl⟩
        go_wp2_with (at_builtin; refine wpList_append_new rfl _ _ 72 rfl _ _ 2 rfl _ 2 (.int .i64 0) 1 8 Try.underlying72 i64Info rfl (by decide) _ _ _ rfl (HO.out) (by first | rfl | (rw [World.size_alloc]; rfl)) rfl (by first | (simp [Value.oneCell']; done) | (intro u hu; simp at hu; subst hu; rfl)) (by unfold maxLen; omega) (by omega) (Below.size (by assumption)) ?_; intro u1 x1 ha1 hg1 hc1)
        exact ⟨⟨k + u, acc ++ [x], f - 1, by omega, by omega, by go_num, by rw [List.length_append]; simp; omega, HE.out.symm, by rw [intVals_append, List.length_append]; exact ha1, HB.out.trans hc1⟩, by simp [intOf]; omega⟩
      · have HE := Lib.hid (hr1 he)
        obtain ⟨z, ez⟩ : ∃ z : Int, z = e := ⟨_, rfl⟩
        have hne : ¬ z = 0 := by omega
        have hget0 : ∀ c, Calls Try.prog 103 #[.slice (some ⟨b, off + k, none⟩) (n - k) c] wr fun e w' => e = .returned (.tuple #[.int .i64 x, .int .i64 u, .int .i64 z]) ∧ wr = w' := by rw [ez]; exact HGET.out
        have HGET0 := Lib.hid hget0
        have EZ := Lib.hid ez
        clear hr1 hr2 hle ez HGET hget0
        have hck : ¬ cap = k := by omega
        go_wp2_with fail
        (with_reducible refine (HGET0.out _).mono ?_)
        rintro e w1 ⟨rfl, rfl⟩
        go_wp2
        go_ret2
        exact ⟨.slice none 0 0, by rw [HE.out, EZ.out]; rfl, by rw [HE.out]; exact owns_nil _ _ _, HB.out⟩
    · obtain rfl : k = n := by omega
      have HE := Lib.hid (Zig.run_end f acc (l.drop k) (by have := HN.out; simp; omega))
      rw [hrun] at HE
      clear hrun
      go_wp2
      go_ret2
      exact ⟨_, by rw [HE.out]; rfl, by rw [HE.out]; exact HO.out, HB.out⟩
end Go.Proofs.Ytapgcbjlgekpeaa
