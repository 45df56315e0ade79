/- Layer 11: samples read from bytes. -/
import Derived.Test.YtapgcbjlgekpeaaJPack3
import Derived.Test.YtapgcbjlgekpeaaJPack4
import Derived.Test.YtapgcbjlgekpeaaJLaws06
namespace Go.Proofs.Ytapgcbjlgekpeaa
open Go.ChangeShapes Go.WideShapes Go.ChangeAt Go.RowKit

theorem Str.mk_inj {a b : List Nat} (ha : ∀ n ∈ a, n < 256) (hb : ∀ n ∈ b, n < 256) (h : Str.mk a = Str.mk b) : a = b := by
  have := congrArg Str.bytes h
  rwa [Str.bytes_mk a ha, Str.bytes_mk b hb] at this

theorem Str.eq_of_beq {a b : ByteArray} (h : (a == b) = true) : a = b := by
  obtain ⟨x⟩ := a
  obtain ⟨y⟩ := b
  rw [show x = y by simpa using (show (x == y) = true from h)]

set_option maxRecDepth 100000 in
theorem bytes_equal (p q : Option Addr) (c d : Nat) (a b : List Nat) (ha : ∀ n ∈ a, n < 256) (hb : ∀ n ∈ b, n < 256) (w : World) (h1 : Bytes w p a) (h2 : Bytes w q b) :
    Calls Try.prog 101 #[.slice p a.length c, .slice q b.length d] w fun e w' => e = .returned (.bool (decide (a = b))) ∧ w = w' := by
  have v1 := run_string_bytes (P := Try.prog) w 62 9 5 p c a Try.underlying62 Try.underlying5 Try.underlying9 ha h1
  have v2 := run_string_bytes (P := Try.prog) w 62 9 5 q d b Try.underlying62 Try.underlying5 Try.underlying9 hb h2
  have hinj : Str.mk a = Str.mk b → a = b := Str.mk_inj ha hb
  by_cases h : a = b
  · subst h
    rw [decide_eq_true rfl]
    clear ha hb h1 h2 hinj
    go_enter Try.func101, Try.ntmps101
    go_wp2
    go_ret
    exact ⟨rfl, rfl⟩
  · rw [decide_eq_false h]
    have hne : ¬ Str.mk a = Str.mk b := fun e => h (hinj e)
    have hnb : ((Str.mk a).toList == (Str.mk b).toList) = false := by
      rw [← beq_toListBytes]
      cases hx : (Str.mk a == Str.mk b) with
      | false => rfl
      | true => exact absurd (Str.eq_of_beq hx) hne
    clear ha hb h1 h2 hinj h
    go_enter Try.func101, Try.ntmps101
    go_wp2
    go_ret
    exact ⟨rfl, rfl⟩

set_option maxHeartbeats 2000000 in
set_option maxRecDepth 100000 in
theorem pack_get (p : Option Addr) (cap : Nat) (b : List Nat) (hl : ∀ n ∈ b, n < 256) (hc : b.length ≤ cap) (hb : b.length ≤ 100000) (w : World) (hs : Bytes w p b) :
    Calls Try.prog 36 #[.slice p b.length cap] w (RetOwnInt w 2 (Pk.get b).1.length (sampVals (Pk.get b).1) (Pk.get b).2) := by
  have P1 := Lib.hid (zig_all p cap b w hs hl hc hb)
  obtain ⟨e2, i64, le⟩ := Zig.all_spec b hl
  have hen := Zig.errno_ne e2
  have hget : Pk.get b = if (Zig.all b).2 = 0 then
    (if Pk.check (Pk.un (Zig.all b).1 (Pk.pairs (Zig.all b).1)) = 0 ∧ Zig.put (Pk.nums (Pk.un (Zig.all b).1 (Pk.pairs (Zig.all b).1)) (Pk.pairs (Zig.all b).1)) = b then (Pk.un (Zig.all b).1 (Pk.pairs (Zig.all b).1), 0) else ([], 10))
  else ([], Zig.errno (Zig.all b).2) := rfl
  obtain ⟨g, eg⟩ : ∃ g, g = Pk.get b := ⟨_, rfl⟩
  rw [← eg] at hget ⊢
  obtain ⟨ms, ems⟩ : ∃ ms, ms = (Zig.all b).1 := ⟨_, rfl⟩
  obtain ⟨er, eer⟩ : ∃ ms, ms = (Zig.all b).2 := ⟨_, rfl⟩
  rw [← ems] at P1 hget i64 le
  rw [← eer] at P1 hget hen e2
  obtain ⟨cd, ecd⟩ : ∃ z, z = Zig.errno er := ⟨_, rfl⟩
  rw [← ecd] at P1 hen hget
  by_cases h0 : er = 0
  · have hcd : cd = 0 := hen.1 h0
    subst hcd
    rw [if_pos h0] at hget
    have P2 := Lib.hid (fun (q : Option Addr) (c : Nat) (W : World) (h : Ints .i64 W q ms) => pack_samples q c ms i64 (by omega) W h)
    have hul := Pk.un_len ms (Pk.pairs ms)
    have hui := Pk.un_In ms (Pk.pairs ms)
    have hpr : Pk.pairs ms ≤ 50000 := by unfold Pk.pairs; omega
    obtain ⟨r, er2⟩ : ∃ r, r = Pk.pairs ms := ⟨_, rfl⟩
    rw [← er2] at hget hul hui hpr
    simp only [← er2] at P2
    obtain ⟨L, eL⟩ : ∃ L, L = Pk.un ms r := ⟨_, rfl⟩
    rw [← eL] at hget hul hui
    simp only [← eL] at P2
    rw [← hul] at P2 hget
    have hpb : Pk.bytes L = if Pk.check L = 0 then Zig.put (Pk.nums L L.length) else [] := rfl
    have hby : ∀ n ∈ Pk.bytes L, n < 256 := by
      intro n hn
      rw [hpb] at hn
      split at hn
      · rename_i hck
        exact Pk.put_byte (Pk.nums_I64 hui hck _ (Nat.le_refl _)) n hn
      · simp at hn
    have P3 := Lib.hid (fun (q : Option Addr) (c : Nat) (W : World) (h : Samps W q L) => pack_put q c L (by omega) hui W h)
    have P4 := Lib.hid (fun (q : Option Addr) (c : Nat) (W : World) (h : Bytes W q (Pk.bytes L)) (h2 : Bytes W p b) => bytes_equal q p c cap (Pk.bytes L) b hby hl W h h2)
    obtain ⟨ck, eck⟩ : ∃ c, c = Pk.check L := ⟨_, rfl⟩
    rw [← eck] at hget hpb
    simp only [← eck] at P3
    obtain ⟨bs, ebs⟩ : ∃ c, c = Pk.bytes L := ⟨_, rfl⟩
    rw [← ebs] at hpb
    simp only [← ebs] at P3 P4
    have HGET : Hid (g = if ck = 0 ∧ bs = b then (L, 0) else ([], 10)) := by
      show _ = _
      rw [hget]
      by_cases hk : ck = 0
      · rw [hpb, if_pos hk]
      · rw [if_neg (fun h => hk h.1), if_neg (fun h => hk h.1)]
    have HS := Lib.hid hs
    obtain ⟨n, en⟩ : ∃ n, n = b.length := ⟨_, rfl⟩
    rw [← en] at P1 P4 ⊢
    obtain ⟨k, ek⟩ : ∃ n, n = ms.length := ⟨_, rfl⟩
    have EK := Lib.hid ek
    rw [← ek] at P1 P2
    obtain ⟨nl, enl⟩ : ∃ n, n = L.length := ⟨_, rfl⟩
    have ENL := Lib.hid enl
    rw [← enl] at P2 P3
    obtain ⟨nb, enb⟩ : ∃ n, n = bs.length := ⟨_, rfl⟩
    have ENB := Lib.hid enb
    rw [← enb] at P3 P4
    clear hs hl hc hb e2 i64 le hen hget eg ems eer ecd er2 eL hul hui hpr hpb hby eck ebs en ek enl enb h0
    go_enter Try.func36, Try.ntmps36
    go_wp2_with fail
    refine P1.out.mono ?_
    rintro e w1 ⟨v1, rfl, hO1, hB1⟩
    rw [EK.out] at hO1
    obtain ⟨q1, c1, rfl, _, hq1⟩ := ints_of_owns hO1
    rw [← EK.out]
    have B1 := Lib.hid hB1
    have S1 := Lib.hid (Sl.below HS.out hB1)
    have Q1 := Lib.hid (P2.out q1 c1 w1 hq1)
    clear hO1 hB1 hq1 P1 P2
    go_wp2_with fail
    refine Q1.out.mono ?_
    rintro e w2 ⟨v2, rfl, hO2, hB2⟩
    rw [ENL.out] at hO2
    obtain ⟨q2, c2, rfl, _, hq2⟩ := samps_of_owns hO2
    have O2 := Lib.hid (hO2.mono B1.out.size)
    rw [← ENL.out] at O2 ⊢
    have B2 := Lib.hid (B1.out.trans (hB2.mono B1.out.size))
    have S2 := Lib.hid (Sl.below S1.out hB2)
    have Q2 := Lib.hid (P3.out q2 c2 w2 hq2)
    clear hO2 hB2 hq2 Q1 B1 S1 P3
    go_wp2_with fail
    refine Q2.out.mono ?_
    rintro e w3 ⟨v3, rfl, hO3, hB3⟩
    rw [ENB.out] at hO3
    obtain ⟨q3, c3, rfl, _, hq3⟩ := bytes_of_owns hO3
    rw [← ENB.out]
    have O3 := Lib.hid (O2.out.below hB3)
    have B3 := Lib.hid (B2.out.trans (hB3.mono B2.out.size))
    have Q3 := Lib.hid (P4.out q3 c3 w3 hq3 (Sl.below S2.out hB3))
    clear hO3 hB3 hq3 Q2 B2 S2 O2 P4
    by_cases hk : ck = 0
    · subst hk
      by_cases he : bs = b
      · have HG : Hid (g = (L, 0)) := HGET.out.trans (if_pos ⟨rfl, he⟩)
        have Q4 := Q3.out
        rw [decide_eq_true he] at Q4
        have Q5 := Lib.hid Q4
        clear Q4 Q3 HGET
        go_wp2_with ((with_reducible refine Q5.out.mono ?_); rintro e w9 ⟨rfl, rfl⟩)
        go_ret2
        exact ⟨_, by rw [HG.out]; rfl, by rw [HG.out]; show Owns _ _ _ _ L.length _; rw [← ENL.out]; exact O3.out, B3.out⟩
      · have HG : Hid (g = ([], 10)) := HGET.out.trans (if_neg (fun h => he h.2))
        have Q4 := Q3.out
        rw [decide_eq_false he] at Q4
        have Q5 := Lib.hid Q4
        clear Q4 Q3 HGET
        go_wp2_with ((with_reducible refine Q5.out.mono ?_); rintro e w9 ⟨rfl, rfl⟩)
        go_ret2
        exact ⟨.slice none 0 0, by rw [HG.out]; rfl, by rw [HG.out]; exact owns_nil _ _ _, B3.out⟩
    · have hkb : (ck != 0) = true := by simpa using hk
      have HG : Hid (g = ([], 10)) := HGET.out.trans (if_neg (fun h => hk h.1))
      clear Q3 HGET
      go_wp2
      go_ret2
      exact ⟨.slice none 0 0, by rw [HG.out]; rfl, by rw [HG.out]; exact owns_nil _ _ _, B3.out⟩
  · have hcd : cd ≠ 0 := fun h => h0 (hen.2 h)
    rw [if_neg h0] at hget
    have HG := Lib.hid hget
    have hcb : (cd != 0) = true := by simpa using hcd
    obtain ⟨n, en⟩ : ∃ n, n = b.length := ⟨_, rfl⟩
    rw [← en] at P1 ⊢
    obtain ⟨k, ek⟩ : ∃ n, n = ms.length := ⟨_, rfl⟩
    rw [← ek] at P1
    clear hs hl hc hb e2 i64 le hen hget eg ems eer ecd en ek h0
    go_enter Try.func36, Try.ntmps36
    go_wp2_with fail
    refine P1.out.mono ?_
    rintro e w1 ⟨v1, rfl, hO1, hB1⟩
    have B1 := Lib.hid hB1
    obtain ⟨q1, c1, rfl, _⟩ := hO1.sl
    clear hO1 hB1
    go_wp2
    go_ret2
    exact ⟨.slice none 0 0, by rw [HG.out]; rfl, by rw [HG.out]; exact owns_nil _ _ _, B1.out⟩
end Go.Proofs.Ytapgcbjlgekpeaa
