/- Layer 11: the laws, walked: what is put. -/
import Derived.Test.YtapgcbjlgekpeaaJPack5
import Derived.Test.YtapgcbjlgekpeaaJSer
namespace Go.Proofs.Ytapgcbjlgekpeaa
open Go.ChangeShapes Go.WideShapes Go.ChangeAt Go.RowKit

theorem Pk.bytes_nil : Pk.bytes [] = [0] := by
  have h : Pk.check [] = 0 := by decide
  unfold Pk.bytes
  rw [if_pos h]
  show Zig.bytes 0 ++ [] = [0]
  rw [Zig.bytes_last (by omega)]
  rfl
theorem Pk.bytes_one : Pk.bytes [⟨3, 1⟩] = [2, 6, 2] := by
  have h : Pk.check [⟨3, 1⟩] = 0 := by decide
  unfold Pk.bytes
  rw [if_pos h]
  show Zig.bytes 2 ++ (Zig.bytes 6 ++ (Zig.bytes 2 ++ [])) = _
  rw [Zig.bytes_last (by omega), Zig.bytes_last (by omega)]
  rfl
theorem Pk.get_two : Pk.get [2] = ([], 10) := by
  have h : Zig.all [2] = ([1], 0) := by decide
  have p : Zig.put (Pk.nums [] 0) = [0] := by
    show Zig.bytes 0 ++ [] = [0]
    rw [Zig.bytes_last (by omega)]
    rfl
  unfold Pk.get
  rw [h, if_pos rfl]
  show (if Pk.check [] = 0 ∧ Zig.put (Pk.nums [] 0) = [2] then _ else _) = _
  rw [p, if_neg (by decide)]

set_option maxHeartbeats 1000000 in
set_option maxRecDepth 100000 in
theorem awake11 (w : World) : Calls Try.prog 31 #[] w fun e w' => e = .returned (.bool true) ∧ Below w.heap.size w w' := by
  have g1 : Hid (∀ W : World, Calls Try.prog 32 #[.slice none 0 0] W (RetOwnInt W 1 1 (byteVals [0]) 0)) := fun W => by
    have := pack_put none 0 [] (by simp) (by simp) W (.inl rfl)
    rw [Pk.bytes_nil, show Pk.check [] = 0 by decide] at this
    exact this
  have g2 : Hid (∀ W : World, Calls Try.prog 32 #[.slice (some ⟨W.heap.size, 0, none⟩) 1 1] (W.alloc (.cells #[.int .i64 3, .int .i64 1] 23)) (RetOwnInt (W.alloc (.cells #[.int .i64 3, .int .i64 1] 23)) 1 3 (byteVals [2, 6, 2]) 0)) := fun W => by
    have := pack_put (some ⟨W.heap.size, 0, none⟩) 1 [⟨3, 1⟩] (by simp) (by intro a ha; simp at ha; subst ha; unfold Samp.In I64; simp) _ (samps_alloc W [⟨3, 1⟩] 23 _ rfl)
    rw [Pk.bytes_one, show Pk.check [⟨3, 1⟩] = 0 by decide] at this
    exact this
  have g3 : Hid (∀ W : World, Calls Try.prog 36 #[.slice (some ⟨W.heap.size, 0, none⟩) 1 1] (W.alloc (.cells #[.int .u8 2] 5)) (RetOwnInt (W.alloc (.cells #[.int .u8 2] 5)) 2 0 [] 10)) := fun W => by
    have := pack_get (some ⟨W.heap.size, 0, none⟩) 1 [2] (by simp) (by simp) (by simp) _ (bytes_alloc W [2] 5 _ rfl)
    rw [Pk.get_two] at this
    exact this
  go_enter Try.func31, Try.ntmps31
  go_wp2_with fail
  refine (g1.out _).mono ?_
  rintro e w1 ⟨v1, rfl, hO1, hB1⟩
  have O1 := Lib.hid (hO1.below (below1 w1 (.cells #[.int .i64 3, .int .i64 1] 23)))
  have B1 := Lib.hid (hB1.trans ((below1 w1 (.cells #[.int .i64 3, .int .i64 1] 23)).mono hB1.size))
  clear hO1 hB1
  go_wp2_with fail
  refine (g2.out _).mono ?_
  rintro e w2 ⟨v2, rfl, hO2, hB2⟩
  have O2 := Lib.hid ((O1.out.below hB2).below (below1 w2 (.cells #[.int .u8 2] 5)))
  have P2 := Lib.hid ((hO2.mono B1.out.size).below (below1 w2 (.cells #[.int .u8 2] 5)))
  have B2 := Lib.hid ((B1.out.trans (hB2.mono B1.out.size)).trans ((below1 w2 (.cells #[.int .u8 2] 5)).mono (Nat.le_trans B1.out.size hB2.size)))
  clear hO2 hB2 O1 B1
  go_wp2_with fail
  refine (g3.out _).mono ?_
  rintro e w3 ⟨v3, rfl, hO3, hB3⟩
  have hx1 := O2.out.below hB3
  have hx2 := P2.out.below hB3
  have B3 := Lib.hid (B2.out.trans (hB3.mono B2.out.size))
  have hcv1 := run_string_own (P := Try.prog) w3 62 9 5 Try.underlying62 Try.underlying5 Try.underlying9 (l := [0]) (by decide) hx1
  have hcv2 := run_string_own (P := Try.prog) w3 62 9 5 Try.underlying62 Try.underlying5 Try.underlying9 (l := [2, 6, 2]) (by decide) hx2
  rw [show Str.mk [0] = ⟨#[0]⟩ from rfl] at hcv1
  rw [show Str.mk [2, 6, 2] = ⟨#[2, 6, 2]⟩ from rfl] at hcv2
  clear hO3 hB3 O2 P2 B2 hx1 hx2 g1 g2 g3
  go_wp2
  go_ret
  exact ⟨rfl, B3.out⟩

set_option maxHeartbeats 2000000 in
set_option maxRecDepth 100000 in
theorem packPuts_walk (p : Option Addr) (cap : Nat) (l : List Samp) (hb : l.length ≤ 9223372036854775807) (hl : ∀ a ∈ l, a.In) (w : World) (hs : Samps w p l) :
    Calls Try.prog 7 #[.slice p l.length cap] w fun e w' => e = .returned (.bool true) ∧ Below w.heap.size w w' := by
  by_cases h300 : 300 < l.length
  · obtain ⟨n, en⟩ : ∃ n, n = l.length := ⟨_, rfl⟩
    rw [← en] at h300 hb ⊢
    have d : decide ((300 : Int) < n) = true := decide_eq_true (by omega)
    clear en hs hl
    go_enter Try.func7, Try.ntmps7
    go_wp2_with fail
    (with_reducible refine (awake11 _).mono ?_)
    rintro e w1 ⟨rfl, hb1⟩
    have B1 := Lib.hid hb1
    clear hb1
    go_wp2
    go_ret
    exact ⟨rfl, B1.out⟩
  have P1 := Lib.hid (fun (W : World) (h : Samps W p l) => pack_put p cap l (by omega) hl W h)
  have P2 := Lib.hid (fun (W : World) (h : Samps W p l) => ref11_check p cap l (by omega) W h)
  have P3 := Lib.hid (fun (W : World) (h : Samps W p l) => pack_check p cap l (by omega) W h)
  have P4 := Lib.hid (fun (W : World) (h : Samps W p l) => pack_size p cap l (by omega) hl W h)
  have HS := Lib.hid hs
  by_cases hck : Pk.check l = 0
  · have hbl : Pk.bytes l = Zig.put (Pk.nums l l.length) := if_pos hck
    have hpl := Zig.put_len (Pk.nums l l.length) (Pk.nums_I64 hl hck _ (Nat.le_refl _)) (Pk.nums l l.length).length (Nat.le_refl _)
    rw [List.take_length, Pk.nums_len, ← hbl] at hpl
    have h256 := (Pk.check_all hck).1
    have hby : ∀ n ∈ Pk.bytes l, n < 256 := by rw [hbl]; exact Pk.put_byte (Pk.nums_I64 hl hck _ (Nat.le_refl _))
    have P5 := Lib.hid (fun (W : World) (h : Samps W p l) => ref11_put p cap l hl hck W h)
    have P6 := Lib.hid (fun (q : Option Addr) (c : Nat) (W : World) (h : Bytes W q (Pk.bytes l)) (hc : (Pk.bytes l).length ≤ c) => pack_get q c (Pk.bytes l) hby hc (by omega) W h)
    rw [← hbl] at P5
    have hgp := Pk.get_put hl hck
    rw [← hbl] at hgp
    rw [hgp] at P6
    rw [hck] at P1 P2 P3
    have P7 := Lib.hid (fun (q : Option Addr) (c : Nat) (W : World) (h1 : Samps W q l) (h2 : Samps W p l) => ref08_alike q p l.length c cap l rfl (by omega) W h1 h2)
    obtain ⟨bs, ebs⟩ : ∃ bs, bs = Pk.bytes l := ⟨_, rfl⟩
    rw [← ebs] at hby hpl P1 P4 P5 P6
    have HBY := Lib.hid hby
    obtain ⟨n, en⟩ : ∃ n, n = l.length := ⟨_, rfl⟩
    have EN := Lib.hid en
    rw [← en] at hb h300 P1 P2 P3 P4 P5 P7 h256 ⊢
    obtain ⟨m, em⟩ : ∃ n, n = bs.length := ⟨_, rfl⟩
    have EM := Lib.hid em
    rw [← em] at P1 P4 P5
    have d : decide ((300 : Int) < n) = false := decide_eq_false (by omega)
    clear hs hl hck hbl hpl hby hgp ebs en em
    go_enter Try.func7, Try.ntmps7
    go_wp2_with fail
    (with_reducible refine (awake11 _).mono ?_)
    rintro e w1 ⟨rfl, hb1⟩
    have B1 := Lib.hid hb1
    have S1 := Lib.hid (HS.out.below hb1)
    clear hb1 HS
    go_wp2_with fail
    refine (P1.out _ S1.out).mono ?_
    rintro e w2 ⟨v2, rfl, hO2, hB2⟩
    rw [EM.out] at hO2
    obtain ⟨q2, c2, rfl, hc2, hq2⟩ := bytes_of_owns hO2
    have O2 := Lib.hid (hO2.mono B1.out.size)
    have Q2 := Lib.hid hq2
    have S2 := Lib.hid (S1.out.below hB2)
    have B2 := Lib.hid (B1.out.trans (hB2.mono B1.out.size))
    have C2 := Lib.hid hc2
    clear hO2 hB2 hq2 hc2 B1 S1
    rw [← EM.out]
    go_wp2_with fail
    (with_reducible refine (P2.out _ S2.out).mono ?_)
    rintro e w3 ⟨rfl, hB3⟩
    have O3 := Lib.hid (O2.out.below hB3)
    have Q3 := Lib.hid (Sl.below Q2.out hB3)
    have S3 := Lib.hid (S2.out.below hB3)
    have B3 := Lib.hid (B2.out.trans (hB3.mono B2.out.size))
    clear hB3 O2 Q2 S2 B2
    go_wp2_with fail
    (with_reducible refine (P3.out _ S3.out).mono ?_)
    rintro e w4 ⟨rfl, hB4⟩
    have O4 := Lib.hid (O3.out.below hB4)
    have Q4 := Lib.hid (Sl.below Q3.out hB4)
    have S4 := Lib.hid (S3.out.below hB4)
    have B4 := Lib.hid (B3.out.trans (hB4.mono B3.out.size))
    clear hB4 O3 Q3 S3 B3
    have P8 := P6.out q2 c2 w4 Q4.out C2.out
    rw [← EM.out] at P8
    have P9 := Lib.hid P8
    clear P8 P6
    go_wp2_with fail
    refine P9.out.mono ?_
    rintro e w5 ⟨v5, rfl, hO5, hB5⟩
    obtain ⟨q5, c5, rfl, _, hq5⟩ := samps_of_owns hO5
    have O5 := Lib.hid (O4.out.below hB5)
    have S5 := Lib.hid (S4.out.below hB5)
    have Q5 := Lib.hid hq5
    have B5 := Lib.hid (B4.out.trans (hB5.mono B4.out.size))
    clear hO5 hB5 hq5 O4 Q4 S4 B4 P9
    try rw [← EN.out]
    go_wp2_with fail
    have hst : Stab (fun w' => ((Below w.heap.size w w' ∧ Owns w' w.heap.size 1 (.slice q2 bs.length c2) bs.length (byteVals bs)) ∧ Samps w' p l) ∧ Samps w' q5 l) :=
      fun w1 w2 h hb => ⟨⟨⟨h.1.1.1.trans (hb.mono h.1.1.1.size), h.1.1.2.below hb⟩, h.1.2.below hb⟩, h.2.below hb⟩
    refine wp_region_E mixed [22] hst ⟨⟨⟨below_drew B5.out, O5.out⟩, S5.out⟩, Q5.out⟩ ?_
    refine wpAnyE_take 0 rfl (by kernel_rfl) (by kernel_rfl) (by kernel_rfl) (fun _ _ _ h => h) hst (EffB.pure rfl (fun _ => rfl)) (.inr (EffB.pure rfl (fun _ => rfl))) ?_
    simp only [act_norm]
    refine wpAnyE_take 1 (v := .string (Str.mk bs)) rfl (by kernel_rfl) (by kernel_rfl) (by kernel_rfl) (fun _ _ _ h => h) hst (EffB.run rfl rfl (fun wd hS => ?_)) (.inl (by kernel_rfl)) ?_
    · have hcv := run_string_own (P := Try.prog) wd 62 9 5 Try.underlying62 Try.underlying5 Try.underlying9 HBY.out hS.1.1.2; rw [← EM.out] at hcv; go_wp2; exact ⟨rfl, Below.refl _ _⟩
    simp only [act_norm]
    refine wpAnyE_take 2 rfl (by kernel_rfl) (by kernel_rfl) (by kernel_rfl) (fun _ _ _ h => h) hst (EffB.pure rfl (fun _ => rfl)) (.inr (EffB.pure rfl (fun _ => rfl))) ?_
    simp only [act_norm]
    refine wpAnyE_one 3 rfl (by kernel_rfl) rfl (fun wd hS => ?_)
    go_wp2_with fail
    (with_reducible refine (P5.out _ hS.1.2).mono ?_)
    rintro e1 w6 ⟨v6, rfl, hO6, hB6⟩
    have hst2 := stab_and hst (stab_owns (B := w.heap.size) (sz := 1) (v := v6) (n := m) (xs := byteVals bs))
    refine ⟨_, ⟨hst _ _ hS hB6, hO6.mono hS.1.1.1.size⟩, hst2, fun _ h => h.1, ?_⟩
    try simp only [act_norm]
    clear hO6 hB6 hS hst
    have hst := hst2
    refine wpAnyE_take 4 (v := .string (Str.mk bs)) rfl (by kernel_rfl) (by kernel_rfl) (by kernel_rfl) (fun _ _ _ h => h) hst (EffB.run rfl rfl (fun wd hS => ?_)) (.inl (by kernel_rfl)) ?_
    · have h6 := hS.2; rw [EM.out] at h6; have hcv := run_string_own (P := Try.prog) wd 62 9 5 Try.underlying62 Try.underlying5 Try.underlying9 HBY.out h6; go_wp2; exact ⟨rfl, Below.refl _ _⟩
    simp only [act_norm]
    refine wpAnyE_take 5 (v := .bool true) rfl (by kernel_rfl) (by kernel_rfl) (by kernel_rfl) (fun _ _ _ h => h) hst (EffB.run rfl rfl (fun wd hS => ?_)) (.inr (EffB.run rfl rfl (fun wd hS => ?_))) ?_
    · (go_wp2; exact ⟨rfl, Below.refl _ _⟩)
    · (go_wp2; exact ⟨rfl, Below.refl _ _⟩)
    simp only [act_norm]
    refine wpAnyE_take 6 rfl (by kernel_rfl) (by kernel_rfl) (by kernel_rfl) (fun _ _ _ h => h) hst (EffB.pure rfl (fun _ => rfl)) (.inr (EffB.pure rfl (fun _ => rfl))) ?_
    simp only [act_norm]
    refine wpAnyE_take 7 rfl (by kernel_rfl) (by kernel_rfl) (by kernel_rfl) (fun _ _ _ h => h) hst (EffB.pure rfl (fun _ => rfl)) (.inr (EffB.pure rfl (fun _ => rfl))) ?_
    simp only [act_norm]
    refine wpAnyE_take 8 (v := .int .i64 (m : Int)) rfl (by kernel_rfl) (by kernel_rfl) (by kernel_rfl) (fun _ _ _ h => h) hst (EffB.run rfl rfl (fun wd hS => ?_)) (.inl (by kernel_rfl)) ?_
    · (go_wp2_with fail; (with_reducible refine (P4.out wd hS.1.1.2).mono ?_); rintro e w'' ⟨rfl, hb⟩; exact ⟨rfl, hb⟩)
    simp only [act_norm]
    refine wpAnyE_take 9 rfl (by kernel_rfl) (by kernel_rfl) (by kernel_rfl) (fun _ _ _ h => h) hst (EffB.pure rfl (fun _ => rfl)) (.inr (EffB.pure rfl (fun _ => rfl))) ?_
    simp only [act_norm]
    refine wpAnyE_take 10 (v := .int .i64 (m : Int)) rfl (by kernel_rfl) (by kernel_rfl) (by kernel_rfl) (fun _ _ _ h => h) hst (EffB.run rfl rfl (fun wd hS => ?_)) (.inr (EffB.run rfl rfl (fun wd hS => ?_))) ?_
    · (go_wp2; exact ⟨rfl, Below.refl _ _⟩)
    · (go_wp2; exact ⟨rfl, Below.refl _ _⟩)
    simp only [act_norm]
    refine wpAnyE_take 11 (v := .bool true) rfl (by kernel_rfl) (by kernel_rfl) (by kernel_rfl) (fun _ _ _ h => h) hst (EffB.run rfl rfl (fun wd hS => ?_)) (.inr (EffB.run rfl rfl (fun wd hS => ?_))) ?_
    · (go_wp2; exact ⟨rfl, Below.refl _ _⟩)
    · (go_wp2; exact ⟨rfl, Below.refl _ _⟩)
    simp only [act_norm]
    refine wpAnyE_take 12 (v := .bool true) rfl (by kernel_rfl) (by kernel_rfl) (by kernel_rfl) (fun _ _ _ h => h) hst (EffB.run rfl rfl (fun wd hS => ?_)) (.inr (EffB.run rfl rfl (fun wd hS => ?_))) ?_
    · (go_wp2; exact ⟨rfl, Below.refl _ _⟩)
    · (go_wp2; exact ⟨rfl, Below.refl _ _⟩)
    simp only [act_norm]
    refine wpAnyE_take 13 rfl (by kernel_rfl) (by kernel_rfl) (by kernel_rfl) (fun _ _ _ h => h) hst (EffB.pure rfl (fun _ => rfl)) (.inr (EffB.pure rfl (fun _ => rfl))) ?_
    simp only [act_norm]
    refine wpAnyE_take 14 rfl (by kernel_rfl) (by kernel_rfl) (by kernel_rfl) (fun _ _ _ h => h) hst (EffB.pure rfl (fun _ => rfl)) (.inr (EffB.pure rfl (fun _ => rfl))) ?_
    simp only [act_norm]
    refine wpAnyE_take 15 (v := .bool true) rfl (by kernel_rfl) (by kernel_rfl) (by kernel_rfl) (fun _ _ _ h => h) hst (EffB.run rfl rfl (fun wd hS => ?_)) (.inr (EffB.run rfl rfl (fun wd hS => ?_))) ?_
    · (go_wp2; exact ⟨rfl, Below.refl _ _⟩)
    · (go_wp2; exact ⟨rfl, Below.refl _ _⟩)
    simp only [act_norm]
    refine wpAnyE_take 16 (v := .bool true) rfl (by kernel_rfl) (by kernel_rfl) (by kernel_rfl) (fun _ _ _ h => h) hst (EffB.run rfl rfl (fun wd hS => ?_)) (.inr (EffB.run rfl rfl (fun wd hS => ?_))) ?_
    · (go_wp2; exact ⟨rfl, Below.refl _ _⟩)
    · (go_wp2; exact ⟨rfl, Below.refl _ _⟩)
    simp only [act_norm]
    refine wpAnyE_take 17 rfl (by kernel_rfl) (by kernel_rfl) (by kernel_rfl) (fun _ _ _ h => h) hst (EffB.pure rfl (fun _ => rfl)) (.inr (EffB.pure rfl (fun _ => rfl))) ?_
    simp only [act_norm]
    refine wpAnyE_take 18 rfl (by kernel_rfl) (by kernel_rfl) (by kernel_rfl) (fun _ _ _ h => h) hst (EffB.pure rfl (fun _ => rfl)) (.inr (EffB.pure rfl (fun _ => rfl))) ?_
    simp only [act_norm]
    refine wpAnyE_take 19 rfl (by kernel_rfl) (by kernel_rfl) (by kernel_rfl) (fun _ _ _ h => h) hst (EffB.pure rfl (fun _ => rfl)) (.inr (EffB.pure rfl (fun _ => rfl))) ?_
    simp only [act_norm]
    refine wpAnyE_take 20 (v := .bool true) rfl (by kernel_rfl) (by kernel_rfl) (by kernel_rfl) (fun _ _ _ h => h) hst (EffB.run rfl rfl (fun wd hS => ?_)) (.inl (by kernel_rfl)) ?_
    · (go_wp2_with fail; (with_reducible refine (P7.out q5 c5 wd hS.1.2 hS.1.1.2).mono ?_); rintro e w'' ⟨rfl, hb⟩; exact ⟨rfl, hb⟩)
    simp only [act_norm]
    refine wpAnyE_take 21 (v := .bool true) rfl (by kernel_rfl) (by kernel_rfl) (by kernel_rfl) (fun _ _ _ h => h) hst (EffB.run rfl rfl (fun wd hS => ?_)) (.inr (EffB.run rfl rfl (fun wd hS => ?_))) ?_
    · (go_wp2; exact ⟨rfl, Below.refl _ _⟩)
    · (go_wp2; exact ⟨rfl, Below.refl _ _⟩)
    simp only [act_norm]
    refine wpAnyE_take 22 rfl (by kernel_rfl) (by kernel_rfl) (by kernel_rfl) (fun _ _ _ h => h) hst (EffB.pure rfl (fun _ => rfl)) (.inr (EffB.pure rfl (fun _ => rfl))) ?_
    simp only [act_norm]
    refine wpAnyE_done (by kernel_rfl) (fun wd hS => ?_) _
    have BF := Lib.hid hS.1.1.1.1
    clear hS
    go_wp2
    go_ret
    exact ⟨rfl, BF.out⟩
  · have hbl : Pk.bytes l = [] := if_neg hck
    rw [hbl] at P1 P4
    obtain ⟨ck, eck⟩ : ∃ c, c = Pk.check l := ⟨_, rfl⟩
    rw [← eck] at P1 P2 P3 hck
    obtain ⟨n, en⟩ : ∃ n, n = l.length := ⟨_, rfl⟩
    rw [← en] at hb h300 P1 P2 P3 P4 ⊢
    have d : decide ((300 : Int) < n) = false := decide_eq_false (by omega)
    have hcb : (ck != 0) = true := by simpa using hck
    clear hs hl hbl eck en
    go_enter Try.func7, Try.ntmps7
    go_wp2_with fail
    (with_reducible refine (awake11 _).mono ?_)
    rintro e w1 ⟨rfl, hb1⟩
    have B1 := Lib.hid hb1
    have S1 := Lib.hid (HS.out.below hb1)
    clear hb1 HS
    go_wp2_with fail
    refine (P1.out _ S1.out).mono ?_
    rintro e w2 ⟨v2, rfl, hO2, hB2⟩
    obtain ⟨q2, c2, rfl, _⟩ := hO2.sl
    have S2 := Lib.hid (S1.out.below hB2)
    have B2 := Lib.hid (B1.out.trans (hB2.mono B1.out.size))
    clear hO2 hB2 B1 S1
    go_wp2_with fail
    (with_reducible refine (P2.out _ S2.out).mono ?_)
    rintro e w3 ⟨rfl, hB3⟩
    have S3 := Lib.hid (S2.out.below hB3)
    have B3 := Lib.hid (B2.out.trans (hB3.mono B2.out.size))
    clear hB3 S2 B2
    go_wp2_with fail
    (with_reducible refine (P3.out _ S3.out).mono ?_)
    rintro e w4 ⟨rfl, hB4⟩
    have S4 := Lib.hid (S3.out.below hB4)
    have B4 := Lib.hid (B3.out.trans (hB4.mono B3.out.size))
    clear hB4 S3 B3
    go_wp2_with fail
    (with_reducible refine (P4.out _ S4.out).mono ?_)
    rintro e w5 ⟨rfl, hB5⟩
    have B5 := Lib.hid (B4.out.trans (hB5.mono B4.out.size))
    clear hB5 S4 B4
    go_wp2
    go_ret
    exact ⟨rfl, B5.out⟩
end Go.Proofs.Ytapgcbjlgekpeaa
