/- Layer 6: the laws, walked. -/
import Derived.Test.YtlniiicpelldaaaZig6
import Derived.Test.YtlniiicpelldaaaEach
import Derived.Test.YtlniiicpelldaaaOpen
namespace Go.Proofs.Ytlniiicpelldaaa
open Go.ChangeShapes Go.WideShapes Go.ChangeAt Go.RowKit

/-- '[]byte' to 'string', of bytes that lie in memory. -/
theorem run_string_bytes {P : Program} (w : World) (src dst e : TypeId) (p : Option Addr) (cap : Nat) (l : List Nat) (hs : P.underlying src = some (.slice e)) (he : P.underlying e = some (.int .u8)) (hd : P.underlying dst = some .string)
    (hl : ∀ n ∈ l, n < 256) (h : Bytes w p l) : (convert src dst (.slice p l.length cap)).run P w = .ok (.string (Str.mk l)) w := by
  refine run_string_any w src dst e p cap l hs he hd hl (fun hp => ?_) (fun ad hp j u hu => ?_)
  · rcases h with h | ⟨b, off, h, _⟩
    · exact h
    · rw [hp] at h; cases h
  · rcases h with h | ⟨b, off, h, _, hc⟩
    · rw [List.eq_nil_of_length_eq_zero h] at hu
      simp [byteVals] at hu
    · rw [hp] at h
      cases h
      have hj : j < l.length := by
        have := (List.getElem?_eq_some_iff.1 hu).1
        rwa [byteVals_len] at this
      have hadd : (⟨b, off, none⟩ : Addr).add j = ⟨b, off + j, none⟩ := by unfold Addr.add; split <;> simp_all
      rw [hadd, hc j (by omega)]
      simp [byteVals, hj] at hu
      simp [hj, hu]

theorem bytes_alloc (w : World) (l : List Nat) (T : TypeId) (cs : Array Value) (h : cs = (byteVals l).toArray) : Bytes (w.alloc (.cells cs T)) (some ⟨w.heap.size, 0, none⟩) l := by
  subst h
  refine .inr ⟨w.heap.size, 0, rfl, by simp, fun j hj => ?_⟩
  rw [World.cell?_alloc_at _ _ _ _ (by simp), Nat.zero_add]
  have hj' : j < l.length := by omega
  simp [byteVals, hj']
theorem ints_alloc (w : World) (l : List Int) (T : TypeId) (cs : Array Value) (h : cs = (intVals l).toArray) : Ints .i64 (w.alloc (.cells cs T)) (some ⟨w.heap.size, 0, none⟩) l := by
  subst h
  refine .inr ⟨w.heap.size, 0, rfl, by simp, fun j hj => ?_⟩
  rw [World.cell?_alloc_at _ _ _ _ (by simp), Nat.zero_add]
  have hj' : j < l.length := by omega
  simp [intVals, hj']

theorem law06_code (e : Nat) (he : e ≤ 2) (w : World) : Calls Try.prog 56 #[.int .i64 e] w fun r w' => r = .returned (.int .i64 (Zig.errno e)) ∧ w = w' := by
  match e, he with
  | 0, _ =>
    go_enter Try.func56, Try.ntmps56
    go_wp2
    go_ret
    exact ⟨rfl, rfl⟩
  | 1, _ =>
    go_enter Try.func56, Try.ntmps56
    go_wp2
    go_ret
    exact ⟨rfl, rfl⟩
  | 2, _ =>
    go_enter Try.func56, Try.ntmps56
    go_wp2
    go_ret
    exact ⟨rfl, rfl⟩

set_option maxHeartbeats 1000000 in
set_option maxRecDepth 100000 in
theorem awake06 (w : World) : Calls Try.prog 46 #[] w fun e w' => e = .returned (.bool true) ∧ Below w.heap.size w w' := by
  have g1 : Calls Try.prog 54 #[.slice (some ⟨w.heap.size, 0, none⟩) 1 1] (w.alloc (.cells #[.int .u8 128] 5)) fun e w' => e = .returned (.tuple #[.int .i64 0, .int .i64 0, .int .i64 11]) ∧ w.alloc (.cells #[.int .u8 128] 5) = w' :=
    zig_get (some ⟨w.heap.size, 0, none⟩) 1 [128] _ (bytes_alloc w [128] _ _ rfl) (by simp) (by simp)
  have g2 : ∀ W : World, Calls Try.prog 54 #[.slice (some ⟨W.heap.size, 0, none⟩) 2 2] (W.alloc (.cells #[.int .u8 128, .int .u8 0] 5)) fun e w' => e = .returned (.tuple #[.int .i64 0, .int .i64 0, .int .i64 10]) ∧ W.alloc (.cells #[.int .u8 128, .int .u8 0] 5) = w' :=
    fun W => zig_get (some ⟨W.heap.size, 0, none⟩) 2 [128, 0] _ (bytes_alloc W [128, 0] _ _ rfl) (by simp) (by simp)
  have g3 : ∀ W : World, Calls Try.prog 47 #[.slice (some ⟨W.heap.size, 0, none⟩) 2 2] (W.alloc (.cells #[.int .i64 (-1), .int .i64 64] 2)) (RetOwn (W.alloc (.cells #[.int .i64 (-1), .int .i64 64] 2)) 1 3 (byteVals [1, 128, 1])) := by
    intro W
    have := zig_put (some ⟨W.heap.size, 0, none⟩) 2 [-1, 64] (by intro n hn; simp at hn; unfold I64; omega) (by simp) _ (ints_alloc W [-1, 64] 2 _ rfl)
    have e : Zig.put [-1, 64] = [1, 128, 1] := by
      show Zig.bytes 1 ++ (Zig.bytes 128 ++ []) = _
      rw [Zig.bytes_last (by omega), Zig.bytes_more (by omega), Zig.bytes_last (by omega)]
      rfl
    rw [e] at this
    exact this
  have g2' := g2 (w.alloc (.cells #[.int .u8 128] 5))
  rw [World.size_alloc] at g2'
  have g3' := g3 ((w.alloc (.cells #[.int .u8 128] 5)).alloc (.cells #[.int .u8 128, .int .u8 0] 5))
  rw [World.size_alloc, World.size_alloc, Nat.add_assoc] at g3'
  have G1 := Lib.hid g1
  have G2 := Lib.hid g2'
  have G3 := Lib.hid g3'
  clear g1 g2 g3 g2' g3'
  go_enter Try.func46, Try.ntmps46
  go_wp2_with fail
  (with_reducible refine G1.out.mono ?_)
  rintro e w1 ⟨rfl, rfl⟩
  go_wp2_with fail
  (with_reducible refine G2.out.mono ?_)
  rintro e w1 ⟨rfl, rfl⟩
  go_wp2_with fail
  refine G3.out.mono ?_
  rintro e w1 ⟨v, rfl, hO, hB⟩
  have hcv := run_string_own (P := Try.prog) w1 46 9 5 Try.underlying46 Try.underlying5 Try.underlying9 (by decide) hO
  rw [show Str.mk [1, 128, 1] = ⟨#[1, 128, 1]⟩ from rfl] at hcv
  have HB := Lib.hid ((below3 w (.cells #[.int .u8 128] 5) (.cells #[.int .u8 128, .int .u8 0] 5) (.cells #[.int .i64 (-1), .int .i64 64] 2)).trans (hB.mono (by simp; omega)))
  clear hO hB
  go_wp2
  go_ret
  exact ⟨rfl, HB.out⟩

set_option maxHeartbeats 1000000 in
set_option maxRecDepth 100000 in
theorem zigGets_walk (p : Option Addr) (cap : Nat) (l : List Nat) (w : World) (hs : Bytes w p l) (hl : ∀ n ∈ l, n < 256) (hb : l.length ≤ 9223372036854775807) :
    Calls Try.prog 13 #[.slice p l.length cap] w fun e w' => e = .returned (.bool true) ∧ Below w.heap.size w w' := by
  have h1 := fun W : World => fun h : Bytes W p l => zig_get p cap l W h hl hb
  have h2 := fun W : World => fun h : Bytes W p l => ref_get p cap l W h hl hb
  have h3 := law06_code (Zig.get l).2.2 (Zig.get_le l).1
  obtain ⟨x, ex⟩ : ∃ x, x = (Zig.get l).1 := ⟨_, rfl⟩
  obtain ⟨u, eu⟩ : ∃ x, x = (Zig.get l).2.1 := ⟨_, rfl⟩
  obtain ⟨e, ee⟩ : ∃ x, x = (Zig.get l).2.2 := ⟨_, rfl⟩
  rw [← ex, ← eu, ← ee] at h1
  rw [← ex, ← eu, ← ee] at h2
  rw [← ee] at h3
  obtain ⟨z, ez⟩ : ∃ x, x = Zig.errno e := ⟨_, rfl⟩
  rw [← ez] at h1 h3
  have H1 := Lib.hid h1
  have H2 := Lib.hid h2
  have H3 := Lib.hid h3
  have HS := Lib.hid hs
  clear hs hl h1 h2 h3 ex eu ee ez
  obtain ⟨n, hn⟩ : ∃ n, n = l.length := ⟨_, rfl⟩
  rw [← hn] at hb H1 H2 ⊢
  clear hn
  go_enter Try.func13, Try.ntmps13
  go_wp2_with fail
  (with_reducible refine (awake06 _).mono ?_)
  rintro e1 w1 ⟨rfl, hb1⟩
  have HB := Lib.hid hb1
  have hs1 : Bytes w1 p l := Sl.below HS.out hb1
  have HS1 := Lib.hid hs1
  clear hb1 hs1
  by_cases h300 : 300 < n
  · go_wp2
    go_ret
    exact ⟨rfl, HB.out⟩
  · go_wp2_with (first | ((with_reducible refine (H1.out _ HS1.out).mono ?_); rintro e1 w2 ⟨rfl, rfl⟩) | ((with_reducible refine (H2.out _ HS1.out).mono ?_); rintro e1 w2 ⟨rfl, rfl⟩) | ((with_reducible refine (H3.out _).mono ?_); rintro e1 w2 ⟨rfl, rfl⟩))
    go_ret
    exact ⟨ret_bool (by simp), HB.out⟩

set_option maxHeartbeats 1000000 in
set_option maxRecDepth 100000 in
theorem zigPuts_walk (p : Option Addr) (cap : Nat) (l : List Int) (n : Int) (hn : I64 n) (w : World) (hs : Ints .i64 w p l) (hl : ∀ n ∈ l, I64 n) (hb : l.length ≤ 9223372036854775807) :
    Calls Try.prog 12 #[.slice p l.length cap, .int .i64 n] w fun e w' => e = .returned (.bool true) ∧ Below w.heap.size w w' := by
  by_cases h100 : 100 < l.length
  · obtain ⟨m, hm⟩ : ∃ m, m = l.length := ⟨_, rfl⟩
    rw [← hm] at hb h100 ⊢
    clear hm hs hl
    go_enter Try.func12, Try.ntmps12
    go_wp2_with fail
    (with_reducible refine (awake06 _).mono ?_)
    rintro e1 w1 ⟨rfl, hb1⟩
    have HB := Lib.hid hb1
    clear hb1
    go_wp2
    go_ret
    exact ⟨rfl, HB.out⟩
  have h1 := fun W : World => fun h : Ints .i64 W p l => zig_put p cap l hl (by omega) W h
  have h2 := fun W : World => fun h : Ints .i64 W p l => ref_zigAll p cap l hl (by omega) W h
  have hpl := Zig.put_len l hl l.length (Nat.le_refl _)
  rw [List.take_length] at hpl
  have hbyte : ∀ b ∈ Zig.put l, b < 256 := by
    intro b hb
    unfold Zig.put at hb
    obtain ⟨m, hm, hb⟩ := List.mem_flatMap.1 hb
    exact Zig.bytes_byte 9 _ (by have := Zig.zig_lt m (hl m hm); omega) b hb
  have hall := Zig.all_put l hl
  have h3 := zig_zig n hn
  have h4 := ref_zig n hn
  have h5 := zig_zag (Zig.zig n) (Zig.zig_lt n hn)
  rw [Zig.zag_zig] at h5
  have h6 := fun (p1 : Option Addr) (c1 : Nat) (W : World) (ha : Ints .i64 W p1 l) (hb' : Ints .i64 W p l) => ref_same p1 p c1 cap l l W ha hb' hb hb
  rw [show decide (l = l) = true from decide_eq_true rfl] at h6
  have h7 := fun (p1 : Option Addr) (c1 : Nat) (W : World) (h : Bytes W p1 (Zig.put l)) (hc : (Zig.put l).length ≤ c1) => zig_all p1 c1 (Zig.put l) W h hbyte hc (by omega)
  rw [hall] at h7
  obtain ⟨z, ez⟩ : ∃ z, z = Zig.zig n := ⟨_, rfl⟩
  rw [← ez] at h3 h4 h5
  obtain ⟨bs, ebs⟩ : ∃ bs, bs = Zig.put l := ⟨_, rfl⟩
  rw [← ebs] at h1 h2 h7 hpl hbyte
  have H1 := Lib.hid h1
  have H2 := Lib.hid h2
  have H6 := Lib.hid h6
  have H7 := Lib.hid h7
  have HBY := Lib.hid hbyte
  have HS := Lib.hid hs
  obtain ⟨m, hm⟩ : ∃ m, m = l.length := ⟨_, rfl⟩
  rw [← hm] at hb h100 H1 H2 H6 hpl ⊢
  have HM := Lib.hid hm
  clear h1 h2 h6 h7 hs hl ez ebs hall hbyte hm
  go_enter Try.func12, Try.ntmps12
  go_wp2_with fail
  (with_reducible refine (awake06 _).mono ?_)
  rintro e1 w1 ⟨rfl, hb1⟩
  have HB := Lib.hid hb1
  have hs1 : Ints .i64 w1 p l := Sl.below HS.out hb1
  have HS1 := Lib.hid hs1
  clear hb1 hs1 HS
  go_wp2_with fail
  (with_reducible refine (H1.out _ HS1.out).mono ?_)
  rintro e1 w2 ⟨v, rfl, hO, hB⟩
  obtain ⟨q, c, rfl, hqc, hqb⟩ := bytes_of_owns hO
  have hs2 : Ints .i64 w2 p l := Sl.below HS1.out hB
  have HS2 := Lib.hid hs2
  have HO := Lib.hid (hO.mono HB.out.size)
  have HQ := Lib.hid hqb
  have HB2 := Lib.hid (HB.out.trans (hB.mono HB.out.size))
  clear hO hB hs2 hqb HS1 HB
  go_wp2_with fail
  (with_reducible refine (H7.out q c _ HQ.out hqc).mono ?_)
  rintro e1 w3 ⟨v, rfl, hO3, hB3⟩
  rw [← HM.out] at hO3
  obtain ⟨p3, c3, rfl, hqc3, hq3⟩ := ints_of_owns (l := l) (by rw [← HM.out]; exact hO3)
  have hs3 : Ints .i64 w3 p l := Sl.below HS2.out hB3
  have ho3 := HO.out.below hB3
  have hb3 := HB2.out.trans (hB3.mono HB2.out.size)
  rw [← HM.out]
  have HS3 := Lib.hid hs3
  have HQ3 := Lib.hid hq3
  have HO3 := Lib.hid ho3
  have HB3 := Lib.hid hb3
  clear hO3 hB3 hs3 hq3 ho3 hb3 HS2 HO HB2 HQ hqc3
  rw [show Zig.errno 0 = 0 from rfl]
  go_wp2_with fail
  have hst : Stab (fun w' => Below w.heap.size w w' ∧ Owns w' w.heap.size 1 (.slice q bs.length c) bs.length (byteVals bs) ∧ Ints .i64 w' p l ∧ Ints .i64 w' p3 l) :=
    fun w1 w2 h hb => ⟨h.1.trans (hb.mono h.1.size), h.2.1.below hb, Sl.below h.2.2.1 hb, Sl.below h.2.2.2 hb⟩
  refine wp_region_E mixed [29] hst ⟨below_drew HB3.out, HO3.out, HS3.out, HQ3.out⟩ ?_
  refine wpAnyE_take 0 rfl (by kernel_rfl) (by kernel_rfl) (by kernel_rfl) (fun _ _ _ h => h) hst (EffB.pure rfl (fun _ => rfl)) (.inr (EffB.pure rfl (fun _ => rfl))) ?_
  simp only [act_norm]
  refine wpAnyE_take 1 (v := .string (Str.mk bs)) rfl (by kernel_rfl) (by kernel_rfl) (by kernel_rfl) (fun _ _ _ h => h) hst (EffB.run rfl rfl (fun wd hS => ?_)) (.inl (by kernel_rfl)) ?_
  · have hcv := run_string_own (P := Try.prog) wd 46 9 5 Try.underlying46 Try.underlying5 Try.underlying9 HBY.out hS.2.1; go_wp2; exact ⟨rfl, Below.refl _ _⟩
  simp only [act_norm]
  refine wpAnyE_take 2 rfl (by kernel_rfl) (by kernel_rfl) (by kernel_rfl) (fun _ _ _ h => h) hst (EffB.pure rfl (fun _ => rfl)) (.inr (EffB.pure rfl (fun _ => rfl))) ?_
  simp only [act_norm]
  refine wpAnyE_one 3 rfl (by kernel_rfl) rfl (fun wd hS => ?_)
  go_wp2_with fail
  (with_reducible refine (H2.out _ hS.2.2.1).mono ?_)
  rintro e1 w4 ⟨v4, rfl, hO4, hB4⟩
  have hst2 : Stab (fun w' => (Below w.heap.size w w' ∧ Owns w' w.heap.size 1 (.slice q bs.length c) bs.length (byteVals bs) ∧ Ints .i64 w' p l ∧ Ints .i64 w' p3 l) ∧ Owns w' w.heap.size 1 v4 bs.length (byteVals bs)) :=
    fun w1 w2 h hb => ⟨hst _ _ h.1 hb, h.2.below hb⟩
  refine ⟨fun w' => (Below w.heap.size w w' ∧ Owns w' w.heap.size 1 (.slice q bs.length c) bs.length (byteVals bs) ∧ Ints .i64 w' p l ∧ Ints .i64 w' p3 l) ∧ Owns w' w.heap.size 1 v4 bs.length (byteVals bs),
    ⟨hst _ _ hS hB4, hO4.mono hS.1.size⟩, hst2, fun _ h => h.1, ?_⟩
  try simp only [act_norm]
  clear hO4 hB4 hS hst
  have hst := hst2
  refine wpAnyE_take 4 (v := .string (Str.mk bs)) rfl (by kernel_rfl) (by kernel_rfl) (by kernel_rfl) (fun _ _ _ h => h) hst (EffB.run rfl rfl (fun wd hS => ?_)) (.inl (by kernel_rfl)) ?_
  · have hcv := run_string_own (P := Try.prog) wd 46 9 5 Try.underlying46 Try.underlying5 Try.underlying9 HBY.out hS.2; go_wp2; exact ⟨rfl, Below.refl _ _⟩
  simp only [act_norm]
  refine wpAnyE_take 5 (v := .bool true) rfl (by kernel_rfl) (by kernel_rfl) (by kernel_rfl) (fun _ _ _ h => h) hst (EffB.run rfl rfl (fun wd hS => ?_)) (.inr (EffB.run rfl rfl (fun wd hS => ?_))) ?_
  · (go_wp2; exact ⟨rfl, Below.refl _ _⟩)
  · (go_wp2; exact ⟨rfl, Below.refl _ _⟩)
  simp only [act_norm]
  refine wpAnyE_take 6 rfl (by kernel_rfl) (by kernel_rfl) (by kernel_rfl) (fun _ _ _ h => h) hst (EffB.pure rfl (fun _ => rfl)) (.inr (EffB.pure rfl (fun _ => rfl))) ?_
  simp only [act_norm]
  refine wpAnyE_take 7 rfl (by kernel_rfl) (by kernel_rfl) (by kernel_rfl) (fun _ _ _ h => h) hst (EffB.pure rfl (fun _ => rfl)) (.inr (EffB.pure rfl (fun _ => rfl))) ?_
  simp only [act_norm]
  refine wpAnyE_take 8 rfl (by kernel_rfl) (by kernel_rfl) (by kernel_rfl) (fun _ _ _ h => h) hst (EffB.pure rfl (fun _ => rfl)) (.inr (EffB.pure rfl (fun _ => rfl))) ?_
  simp only [act_norm]
  refine wpAnyE_take 9 (v := .bool true) rfl (by kernel_rfl) (by kernel_rfl) (by kernel_rfl) (fun _ _ _ h => h) hst (EffB.run rfl rfl (fun wd hS => ?_)) (.inl (by kernel_rfl)) ?_
  · (go_wp2_with fail; (with_reducible refine (H6.out p3 c3 wd hS.1.2.2.2 hS.1.2.2.1).mono ?_); rintro e w'' ⟨rfl, hb⟩; exact ⟨rfl, hb⟩)
  simp only [act_norm]
  refine wpAnyE_take 10 (v := .bool true) rfl (by kernel_rfl) (by kernel_rfl) (by kernel_rfl) (fun _ _ _ h => h) hst (EffB.run rfl rfl (fun wd hS => ?_)) (.inr (EffB.run rfl rfl (fun wd hS => ?_))) ?_
  · (go_wp2; exact ⟨rfl, Below.refl _ _⟩)
  · (go_wp2; exact ⟨rfl, Below.refl _ _⟩)
  simp only [act_norm]
  refine wpAnyE_take 11 rfl (by kernel_rfl) (by kernel_rfl) (by kernel_rfl) (fun _ _ _ h => h) hst (EffB.pure rfl (fun _ => rfl)) (.inr (EffB.pure rfl (fun _ => rfl))) ?_
  simp only [act_norm]
  refine wpAnyE_take 12 rfl (by kernel_rfl) (by kernel_rfl) (by kernel_rfl) (fun _ _ _ h => h) hst (EffB.pure rfl (fun _ => rfl)) (.inr (EffB.pure rfl (fun _ => rfl))) ?_
  simp only [act_norm]
  refine wpAnyE_take 13 (v := .bool true) rfl (by kernel_rfl) (by kernel_rfl) (by kernel_rfl) (fun _ _ _ h => h) hst (EffB.run rfl rfl (fun wd hS => ?_)) (.inr (EffB.run rfl rfl (fun wd hS => ?_))) ?_
  · (go_wp2; exact ⟨rfl, Below.refl _ _⟩)
  · (go_wp2; exact ⟨rfl, Below.refl _ _⟩)
  simp only [act_norm]
  refine wpAnyE_take 14 (v := .bool true) rfl (by kernel_rfl) (by kernel_rfl) (by kernel_rfl) (fun _ _ _ h => h) hst (EffB.run rfl rfl (fun wd hS => ?_)) (.inr (EffB.run rfl rfl (fun wd hS => ?_))) ?_
  · (go_wp2; exact ⟨rfl, Below.refl _ _⟩)
  · (go_wp2; exact ⟨rfl, Below.refl _ _⟩)
  simp only [act_norm]
  refine wpAnyE_take 15 rfl (by kernel_rfl) (by kernel_rfl) (by kernel_rfl) (fun _ _ _ h => h) hst (EffB.pure rfl (fun _ => rfl)) (.inr (EffB.pure rfl (fun _ => rfl))) ?_
  simp only [act_norm]
  refine wpAnyE_take 16 rfl (by kernel_rfl) (by kernel_rfl) (by kernel_rfl) (fun _ _ _ h => h) hst (EffB.pure rfl (fun _ => rfl)) (.inr (EffB.pure rfl (fun _ => rfl))) ?_
  simp only [act_norm]
  refine wpAnyE_take 17 (v := .int .u64 z) rfl (by kernel_rfl) (by kernel_rfl) (by kernel_rfl) (fun _ _ _ h => h) hst (EffB.run rfl rfl (fun wd hS => ?_)) (.inl (by kernel_rfl)) ?_
  · (go_wp2_with fail; (with_reducible refine (h3 wd).mono ?_); rintro e w'' ⟨rfl, rfl⟩; exact ⟨rfl, Below.refl _ _⟩)
  simp only [act_norm]
  refine wpAnyE_take 18 rfl (by kernel_rfl) (by kernel_rfl) (by kernel_rfl) (fun _ _ _ h => h) hst (EffB.pure rfl (fun _ => rfl)) (.inr (EffB.pure rfl (fun _ => rfl))) ?_
  simp only [act_norm]
  refine wpAnyE_take 19 (v := .int .u64 z) rfl (by kernel_rfl) (by kernel_rfl) (by kernel_rfl) (fun _ _ _ h => h) hst (EffB.run rfl rfl (fun wd hS => ?_)) (.inl (by kernel_rfl)) ?_
  · (go_wp2_with fail; (with_reducible refine (h4 wd).mono ?_); rintro e w'' ⟨rfl, rfl⟩; exact ⟨rfl, Below.refl _ _⟩)
  simp only [act_norm]
  refine wpAnyE_take 20 (v := .bool true) rfl (by kernel_rfl) (by kernel_rfl) (by kernel_rfl) (fun _ _ _ h => h) hst (EffB.run rfl rfl (fun wd hS => ?_)) (.inr (EffB.run rfl rfl (fun wd hS => ?_))) ?_
  · (go_wp2; exact ⟨rfl, Below.refl _ _⟩)
  · (go_wp2; exact ⟨rfl, Below.refl _ _⟩)
  simp only [act_norm]
  refine wpAnyE_take 21 (v := .bool true) rfl (by kernel_rfl) (by kernel_rfl) (by kernel_rfl) (fun _ _ _ h => h) hst (EffB.run rfl rfl (fun wd hS => ?_)) (.inr (EffB.run rfl rfl (fun wd hS => ?_))) ?_
  · (go_wp2; exact ⟨rfl, Below.refl _ _⟩)
  · (go_wp2; exact ⟨rfl, Below.refl _ _⟩)
  simp only [act_norm]
  refine wpAnyE_take 22 rfl (by kernel_rfl) (by kernel_rfl) (by kernel_rfl) (fun _ _ _ h => h) hst (EffB.pure rfl (fun _ => rfl)) (.inr (EffB.pure rfl (fun _ => rfl))) ?_
  simp only [act_norm]
  refine wpAnyE_take 23 rfl (by kernel_rfl) (by kernel_rfl) (by kernel_rfl) (fun _ _ _ h => h) hst (EffB.pure rfl (fun _ => rfl)) (.inr (EffB.pure rfl (fun _ => rfl))) ?_
  simp only [act_norm]
  refine wpAnyE_take 24 (v := .int .u64 z) rfl (by kernel_rfl) (by kernel_rfl) (by kernel_rfl) (fun _ _ _ h => h) hst (EffB.run rfl rfl (fun wd hS => ?_)) (.inl (by kernel_rfl)) ?_
  · (go_wp2_with fail; (with_reducible refine (h3 wd).mono ?_); rintro e w'' ⟨rfl, rfl⟩; exact ⟨rfl, Below.refl _ _⟩)
  simp only [act_norm]
  refine wpAnyE_take 25 (v := .int .i64 n) rfl (by kernel_rfl) (by kernel_rfl) (by kernel_rfl) (fun _ _ _ h => h) hst (EffB.run rfl rfl (fun wd hS => ?_)) (.inl (by kernel_rfl)) ?_
  · (go_wp2_with fail; (with_reducible refine (h5 wd).mono ?_); rintro e w'' ⟨rfl, rfl⟩; exact ⟨rfl, Below.refl _ _⟩)
  simp only [act_norm]
  refine wpAnyE_take 26 rfl (by kernel_rfl) (by kernel_rfl) (by kernel_rfl) (fun _ _ _ h => h) hst (EffB.pure rfl (fun _ => rfl)) (.inr (EffB.pure rfl (fun _ => rfl))) ?_
  simp only [act_norm]
  refine wpAnyE_take 27 (v := .bool true) rfl (by kernel_rfl) (by kernel_rfl) (by kernel_rfl) (fun _ _ _ h => h) hst (EffB.run rfl rfl (fun wd hS => ?_)) (.inr (EffB.run rfl rfl (fun wd hS => ?_))) ?_
  · (go_wp2; exact ⟨rfl, Below.refl _ _⟩)
  · (go_wp2; exact ⟨rfl, Below.refl _ _⟩)
  simp only [act_norm]
  refine wpAnyE_take 28 (v := .bool true) rfl (by kernel_rfl) (by kernel_rfl) (by kernel_rfl) (fun _ _ _ h => h) hst (EffB.run rfl rfl (fun wd hS => ?_)) (.inr (EffB.run rfl rfl (fun wd hS => ?_))) ?_
  · (go_wp2; exact ⟨rfl, Below.refl _ _⟩)
  · (go_wp2; exact ⟨rfl, Below.refl _ _⟩)
  simp only [act_norm]
  refine wpAnyE_take 29 (v := .bool true) rfl (by kernel_rfl) (by kernel_rfl) (by kernel_rfl) (fun _ _ _ h => h) hst (EffB.run rfl rfl (fun wd hS => ?_)) (.inr (EffB.run rfl rfl (fun wd hS => ?_))) ?_
  · (go_wp2; exact ⟨rfl, Below.refl _ _⟩)
  · (go_wp2; exact ⟨rfl, Below.refl _ _⟩)
  simp only [act_norm]
  refine wpAnyE_done (by kernel_rfl) (fun wd hS => ?_) _
  go_wp2
  go_ret
  exact ⟨rfl, hS.1.1⟩

set_option maxHeartbeats 1000000 in
set_option maxRecDepth 100000 in
theorem zigReads_walk (p : Option Addr) (cap : Nat) (l : List Nat) (x : Nat) (hx : x < 18446744073709551616) (w : World) (hs : Bytes w p l) (hl : ∀ n ∈ l, n < 256) (hc : l.length ≤ cap) (hb : l.length ≤ 9223372036854775807) :
    Calls Try.prog 14 #[.slice p l.length cap, .int .u64 x] w fun e w' => e = .returned (.bool true) ∧ Below w.heap.size w w' := by
  by_cases h300 : 300 < l.length
  · obtain ⟨m, hm⟩ : ∃ m, m = l.length := ⟨_, rfl⟩
    rw [← hm] at hb h300 ⊢
    clear hm hs hl hc
    go_enter Try.func14, Try.ntmps14
    go_wp2_with fail
    (with_reducible refine (awake06 _).mono ?_)
    rintro e1 w1 ⟨rfl, hb1⟩
    have HB := Lib.hid hb1
    clear hb1
    go_wp2
    go_ret
    exact ⟨rfl, HB.out⟩
  have h1 := fun W : World => fun h : Bytes W p l => zig_all p cap l W h hl hc (by omega)
  have h2 := fun W : World => fun h : Bytes W p l => ref_read p cap l W h hl hc (by omega)
  obtain ⟨e2, i64, le⟩ := Zig.all_spec l hl
  have h3 := law06_code (Zig.all l).2 e2
  have hcan := Zig.all_canon l hl
  have hz := Zig.zag_I64 x hx
  have z1 := zig_zag x hx
  have z2 := zig_zig (Zig.zag x) hz
  rw [Zig.zig_zag] at z2
  have z3 := ref_zag x hx
  obtain ⟨ms, ems⟩ : ∃ ms, ms = (Zig.all l).1 := ⟨_, rfl⟩
  obtain ⟨er, eer⟩ : ∃ ms, ms = (Zig.all l).2 := ⟨_, rfl⟩
  rw [← ems] at h1 h2 hcan i64 le
  rw [← eer] at h1 h2 h3 hcan e2
  have h4 := fun (p1 p2 : Option Addr) (c1 c2 : Nat) (W : World) (ha : Ints .i64 W p1 ms) (hb' : Ints .i64 W p2 ms) => ref_same p1 p2 c1 c2 ms ms W ha hb' (by omega) (by omega)
  rw [show decide (ms = ms) = true from decide_eq_true rfl] at h4
  have h5 := fun (p1 : Option Addr) (c1 : Nat) (W : World) (h : Ints .i64 W p1 ms) => zig_put p1 c1 ms i64 (by omega) W h
  obtain ⟨zz, ezz⟩ : ∃ z, z = Zig.zag x := ⟨_, rfl⟩
  rw [← ezz] at z1 z2 z3
  have hen := Zig.errno_ne e2
  obtain ⟨ec, eec⟩ : ∃ z, z = Zig.errno er := ⟨_, rfl⟩
  rw [← eec] at h1 h3 hen
  have H1 := Lib.hid h1
  have H2 := Lib.hid h2
  have H3 := Lib.hid h3
  have H4 := Lib.hid h4
  have H5 := Lib.hid h5
  have HL := Lib.hid hl
  have HS := Lib.hid hs
  have HCAN := Lib.hid hcan
  have HEN := Lib.hid hen
  have HLE := Lib.hid le
  obtain ⟨m, hm⟩ : ∃ m, m = l.length := ⟨_, rfl⟩
  have HM := Lib.hid hm
  rw [← hm] at hb h300 H1 H2 HLE ⊢
  obtain ⟨k, hk⟩ : ∃ k, k = ms.length := ⟨_, rfl⟩
  have HK := Lib.hid hk
  rw [← hk] at H1 H2 H4 H5
  clear h1 h2 h3 h4 h5 hs hl hcan hen ems eer ezz eec hm hk i64 le hz hc
  go_enter Try.func14, Try.ntmps14
  go_wp2_with fail
  (with_reducible refine (awake06 _).mono ?_)
  rintro e1 w1 ⟨rfl, hb1⟩
  have HB := Lib.hid hb1
  have hs1 : Bytes w1 p l := Sl.below HS.out hb1
  have HS1 := Lib.hid hs1
  clear hb1 hs1 HS
  go_wp2_with fail
  (with_reducible refine (H1.out _ HS1.out).mono ?_)
  rintro e1 w2 ⟨v, rfl, hO, hB⟩
  rw [HK.out] at hO
  obtain ⟨q, c, rfl, hqc, hq⟩ := ints_of_owns hO
  rw [← HK.out]
  have hs2 : Bytes w2 p l := Sl.below HS1.out hB
  have HS2 := Lib.hid hs2
  have HQ := Lib.hid hq
  have HB2 := Lib.hid (HB.out.trans (hB.mono HB.out.size))
  clear hO hB hs2 hq HS1 HB hqc
  go_wp2_with fail
  (with_reducible refine (H2.out _ HS2.out).mono ?_)
  rintro e1 w3 ⟨v, rfl, hO, hB⟩
  rw [HK.out] at hO
  obtain ⟨q2, c2, rfl, hqc, hq⟩ := ints_of_owns hO
  rw [← HK.out]
  have hs2 : Bytes w3 p l := Sl.below HS2.out hB
  have hq1 : Ints .i64 w3 q ms := Sl.below HQ.out hB
  have HS3 := Lib.hid hs2
  have HQ1 := Lib.hid hq1
  have HQ2 := Lib.hid hq
  have HB3 := Lib.hid (HB2.out.trans (hB.mono HB2.out.size))
  clear hO hB hs2 hq hq1 HS2 HQ HB2 hqc
  go_wp2_with fail
  (with_reducible refine (H4.out _ _ _ _ _ HQ1.out HQ2.out).mono ?_)
  rintro e1 w4 ⟨rfl, hB⟩
  have hs2 : Bytes w4 p l := Sl.below HS3.out hB
  have hq1 : Ints .i64 w4 q ms := Sl.below HQ1.out hB
  have HS4 := Lib.hid hs2
  have HQ4 := Lib.hid hq1
  have HB4 := Lib.hid (HB3.out.trans (hB.mono HB3.out.size))
  clear hB hs2 hq1 HS3 HQ1 HQ2 HB3
  go_wp2_with ((with_reducible refine (H3.out _).mono ?_); rintro e1 w5 ⟨rfl, rfl⟩)
  have hst : Stab (fun w' => Below w.heap.size w w' ∧ Bytes w' p l ∧ Ints .i64 w' q ms) :=
    fun w1 w2 h hb => ⟨h.1.trans (hb.mono h.1.size), Sl.below h.2.1 hb, Sl.below h.2.2 hb⟩
  by_cases hz : ec = 0
  · have hput := HCAN.out (HEN.out.2 hz)
    have h5 := H5.out
    rw [hput] at h5
    have H6 := Lib.hid h5
    subst hz
    clear h5 hput H5 HCAN HEN
    refine wp_region_E mixed [24] hst ⟨below_drew HB4.out, HS4.out, HQ4.out⟩ ?_
    refine wpAnyE_take 0 rfl (by kernel_rfl) (by kernel_rfl) (by kernel_rfl) (fun _ _ _ h => h) hst (EffB.pure rfl (fun _ => rfl)) (.inr (EffB.pure rfl (fun _ => rfl))) ?_
    simp only [act_norm]
    refine wpAnyE_take 1 (v := .bool false) rfl (by kernel_rfl) (by kernel_rfl) (by kernel_rfl) (fun _ _ _ h => h) hst (EffB.run rfl rfl (fun wd hS => ?_)) (.inr (EffB.run rfl rfl (fun wd hS => ?_))) ?_
    · (go_wp2; exact ⟨rfl, Below.refl _ _⟩)
    · (go_wp2; exact ⟨rfl, Below.refl _ _⟩)
    simp only [act_norm]
    refine wpAnyE_take 2 rfl (by kernel_rfl) (by kernel_rfl) (by kernel_rfl) (fun _ _ _ h => h) hst (EffB.pure rfl (fun _ => rfl)) (.inr (EffB.pure rfl (fun _ => rfl))) ?_
    simp only [act_norm]
    refine wpAnyE_take 3 rfl (by kernel_rfl) (by kernel_rfl) (by kernel_rfl) (fun _ _ _ h => h) hst (EffB.pure rfl (fun _ => rfl)) (.inr (EffB.pure rfl (fun _ => rfl))) ?_
    simp only [act_norm]
    refine wpAnyE_take 6 rfl (by kernel_rfl) (by kernel_rfl) (by kernel_rfl) (fun _ _ _ h => h) hst (EffB.pure rfl (fun _ => rfl)) (.inr (EffB.pure rfl (fun _ => rfl))) ?_
    simp only [act_norm]
    refine wpAnyE_take 7 (v := .string (Str.mk l)) rfl (by kernel_rfl) (by kernel_rfl) (by kernel_rfl) (fun _ _ _ h => h) hst (EffB.run rfl rfl (fun wd hS => ?_)) (.inl (by kernel_rfl)) ?_
    · have hcv := run_string_bytes (P := Try.prog) wd 46 9 5 p cap l Try.underlying46 Try.underlying5 Try.underlying9 HL.out hS.2.1; rw [← HM.out] at hcv; go_wp2; exact ⟨rfl, Below.refl _ _⟩
    simp only [act_norm]
    refine wpAnyE_one 4 rfl (by kernel_rfl) rfl (fun wd hS => ?_)
    go_wp2_with fail
    (with_reducible refine (H6.out _ _ _ hS.2.2).mono ?_)
    rintro e1 w5 ⟨v4, rfl, hO4, hB4⟩
    have hst2 : Stab (fun w' => (Below w.heap.size w w' ∧ Bytes w' p l ∧ Ints .i64 w' q ms) ∧ Owns w' w.heap.size 1 v4 l.length (byteVals l)) :=
      fun w1 w2 h hb => ⟨hst _ _ h.1 hb, h.2.below hb⟩
    refine ⟨fun w' => (Below w.heap.size w w' ∧ Bytes w' p l ∧ Ints .i64 w' q ms) ∧ Owns w' w.heap.size 1 v4 l.length (byteVals l),
      ⟨hst _ _ hS hB4, hO4.mono hS.1.size⟩, hst2, fun _ h => h.1, ?_⟩
    try simp only [act_norm]
    clear hO4 hB4 hS hst
    have hst := hst2
    refine wpAnyE_take 5 (v := .string (Str.mk l)) rfl (by kernel_rfl) (by kernel_rfl) (by kernel_rfl) (fun _ _ _ h => h) hst (EffB.run rfl rfl (fun wd hS => ?_)) (.inl (by kernel_rfl)) ?_
    · have hcv := run_string_own (P := Try.prog) wd 46 9 5 Try.underlying46 Try.underlying5 Try.underlying9 HL.out hS.2; go_wp2; exact ⟨rfl, Below.refl _ _⟩
    simp only [act_norm]
    refine wpAnyE_take 8 (v := .bool true) rfl (by kernel_rfl) (by kernel_rfl) (by kernel_rfl) (fun _ _ _ h => h) hst (EffB.run rfl rfl (fun wd hS => ?_)) (.inr (EffB.run rfl rfl (fun wd hS => ?_))) ?_
    · (go_wp2; exact ⟨rfl, Below.refl _ _⟩)
    · (go_wp2; exact ⟨rfl, Below.refl _ _⟩)
    simp only [act_norm]
    refine wpAnyE_take 9 (v := .bool true) rfl (by kernel_rfl) (by kernel_rfl) (by kernel_rfl) (fun _ _ _ h => h) hst (EffB.run rfl rfl (fun wd hS => ?_)) (.inr (EffB.run rfl rfl (fun wd hS => ?_))) ?_
    · (go_wp2; exact ⟨rfl, Below.refl _ _⟩)
    · (go_wp2; exact ⟨rfl, Below.refl _ _⟩)
    simp only [act_norm]
    refine wpAnyE_take 10 rfl (by kernel_rfl) (by kernel_rfl) (by kernel_rfl) (fun _ _ _ h => h) hst (EffB.pure rfl (fun _ => rfl)) (.inr (EffB.pure rfl (fun _ => rfl))) ?_
    simp only [act_norm]
    refine wpAnyE_take 11 rfl (by kernel_rfl) (by kernel_rfl) (by kernel_rfl) (fun _ _ _ h => h) hst (EffB.pure rfl (fun _ => rfl)) (.inr (EffB.pure rfl (fun _ => rfl))) ?_
    simp only [act_norm]
    refine wpAnyE_take 12 (v := .int .i64 zz) rfl (by kernel_rfl) (by kernel_rfl) (by kernel_rfl) (fun _ _ _ h => h) hst (EffB.run rfl rfl (fun wd hS => ?_)) (.inl (by kernel_rfl)) ?_
    · (go_wp2_with fail; (with_reducible refine (z1 wd).mono ?_); rintro e w'' ⟨rfl, rfl⟩; exact ⟨rfl, Below.refl _ _⟩)
    simp only [act_norm]
    refine wpAnyE_take 13 (v := .int .u64 x) rfl (by kernel_rfl) (by kernel_rfl) (by kernel_rfl) (fun _ _ _ h => h) hst (EffB.run rfl rfl (fun wd hS => ?_)) (.inl (by kernel_rfl)) ?_
    · (go_wp2_with fail; (with_reducible refine (z2 wd).mono ?_); rintro e w'' ⟨rfl, rfl⟩; exact ⟨rfl, Below.refl _ _⟩)
    simp only [act_norm]
    refine wpAnyE_take 14 rfl (by kernel_rfl) (by kernel_rfl) (by kernel_rfl) (fun _ _ _ h => h) hst (EffB.pure rfl (fun _ => rfl)) (.inr (EffB.pure rfl (fun _ => rfl))) ?_
    simp only [act_norm]
    refine wpAnyE_take 15 (v := .bool true) rfl (by kernel_rfl) (by kernel_rfl) (by kernel_rfl) (fun _ _ _ h => h) hst (EffB.run rfl rfl (fun wd hS => ?_)) (.inr (EffB.run rfl rfl (fun wd hS => ?_))) ?_
    · (go_wp2; exact ⟨rfl, Below.refl _ _⟩)
    · (go_wp2; exact ⟨rfl, Below.refl _ _⟩)
    simp only [act_norm]
    refine wpAnyE_take 16 (v := .bool true) rfl (by kernel_rfl) (by kernel_rfl) (by kernel_rfl) (fun _ _ _ h => h) hst (EffB.run rfl rfl (fun wd hS => ?_)) (.inr (EffB.run rfl rfl (fun wd hS => ?_))) ?_
    · (go_wp2; exact ⟨rfl, Below.refl _ _⟩)
    · (go_wp2; exact ⟨rfl, Below.refl _ _⟩)
    simp only [act_norm]
    refine wpAnyE_take 17 rfl (by kernel_rfl) (by kernel_rfl) (by kernel_rfl) (fun _ _ _ h => h) hst (EffB.pure rfl (fun _ => rfl)) (.inr (EffB.pure rfl (fun _ => rfl))) ?_
    simp only [act_norm]
    refine wpAnyE_take 18 rfl (by kernel_rfl) (by kernel_rfl) (by kernel_rfl) (fun _ _ _ h => h) hst (EffB.pure rfl (fun _ => rfl)) (.inr (EffB.pure rfl (fun _ => rfl))) ?_
    simp only [act_norm]
    refine wpAnyE_take 19 (v := .int .i64 zz) rfl (by kernel_rfl) (by kernel_rfl) (by kernel_rfl) (fun _ _ _ h => h) hst (EffB.run rfl rfl (fun wd hS => ?_)) (.inl (by kernel_rfl)) ?_
    · (go_wp2_with fail; (with_reducible refine (z1 wd).mono ?_); rintro e w'' ⟨rfl, rfl⟩; exact ⟨rfl, Below.refl _ _⟩)
    simp only [act_norm]
    refine wpAnyE_take 20 rfl (by kernel_rfl) (by kernel_rfl) (by kernel_rfl) (fun _ _ _ h => h) hst (EffB.pure rfl (fun _ => rfl)) (.inr (EffB.pure rfl (fun _ => rfl))) ?_
    simp only [act_norm]
    refine wpAnyE_take 21 (v := .int .i64 zz) rfl (by kernel_rfl) (by kernel_rfl) (by kernel_rfl) (fun _ _ _ h => h) hst (EffB.run rfl rfl (fun wd hS => ?_)) (.inl (by kernel_rfl)) ?_
    · (go_wp2_with fail; (with_reducible refine (z3 wd).mono ?_); rintro e w'' ⟨rfl, rfl⟩; exact ⟨rfl, Below.refl _ _⟩)
    simp only [act_norm]
    refine wpAnyE_take 22 (v := .bool true) rfl (by kernel_rfl) (by kernel_rfl) (by kernel_rfl) (fun _ _ _ h => h) hst (EffB.run rfl rfl (fun wd hS => ?_)) (.inr (EffB.run rfl rfl (fun wd hS => ?_))) ?_
    · (go_wp2; exact ⟨rfl, Below.refl _ _⟩)
    · (go_wp2; exact ⟨rfl, Below.refl _ _⟩)
    simp only [act_norm]
    refine wpAnyE_take 23 (v := .bool true) rfl (by kernel_rfl) (by kernel_rfl) (by kernel_rfl) (fun _ _ _ h => h) hst (EffB.run rfl rfl (fun wd hS => ?_)) (.inr (EffB.run rfl rfl (fun wd hS => ?_))) ?_
    · (go_wp2; exact ⟨rfl, Below.refl _ _⟩)
    · (go_wp2; exact ⟨rfl, Below.refl _ _⟩)
    simp only [act_norm]
    refine wpAnyE_take 24 (v := .bool true) rfl (by kernel_rfl) (by kernel_rfl) (by kernel_rfl) (fun _ _ _ h => h) hst (EffB.run rfl rfl (fun wd hS => ?_)) (.inr (EffB.run rfl rfl (fun wd hS => ?_))) ?_
    · (go_wp2; exact ⟨rfl, Below.refl _ _⟩)
    · (go_wp2; exact ⟨rfl, Below.refl _ _⟩)
    simp only [act_norm]
    refine wpAnyE_done (by kernel_rfl) (fun wd hS => ?_) _
    go_wp2
    go_ret
    exact ⟨rfl, hS.1.1⟩
  · clear H5 HCAN HEN
    have hnz : (ec != 0) = true := by simpa using hz
    refine wp_region_E mixed [24] hst ⟨below_drew HB4.out, HS4.out, HQ4.out⟩ ?_
    refine wpAnyE_take 0 rfl (by kernel_rfl) (by kernel_rfl) (by kernel_rfl) (fun _ _ _ h => h) hst (EffB.pure rfl (fun _ => rfl)) (.inr (EffB.pure rfl (fun _ => rfl))) ?_
    simp only [act_norm]
    refine wpAnyE_take 1 (v := .bool true) rfl (by kernel_rfl) (by kernel_rfl) (by kernel_rfl) (fun _ _ _ h => h) hst (EffB.run rfl rfl (fun wd hS => ?_)) (.inr (EffB.run rfl rfl (fun wd hS => ?_))) ?_
    · (go_wp2; exact ⟨rfl, Below.refl _ _⟩)
    · (go_wp2; exact ⟨rfl, Below.refl _ _⟩)
    simp only [act_norm]
    refine wpAnyE_take 2 rfl (by kernel_rfl) (by kernel_rfl) (by kernel_rfl) (fun _ _ _ h => h) hst (EffB.pure rfl (fun _ => rfl)) (.inr (EffB.pure rfl (fun _ => rfl))) ?_
    simp only [act_norm]
    refine wpAnyE_take 3 rfl (by kernel_rfl) (by kernel_rfl) (by kernel_rfl) (fun _ _ _ h => h) hst (EffB.skip rfl) (.inr (EffB.skip rfl)) ?_
    simp only [act_norm]
    refine wpAnyE_take 4 rfl (by kernel_rfl) (by kernel_rfl) (by kernel_rfl) (fun _ _ _ h => h) hst (EffB.skip rfl) (.inr (EffB.skip rfl)) ?_
    simp only [act_norm]
    refine wpAnyE_take 5 rfl (by kernel_rfl) (by kernel_rfl) (by kernel_rfl) (fun _ _ _ h => h) hst (EffB.skip rfl) (.inr (EffB.skip rfl)) ?_
    simp only [act_norm]
    refine wpAnyE_take 6 rfl (by kernel_rfl) (by kernel_rfl) (by kernel_rfl) (fun _ _ _ h => h) hst (EffB.skip rfl) (.inr (EffB.skip rfl)) ?_
    simp only [act_norm]
    refine wpAnyE_take 7 rfl (by kernel_rfl) (by kernel_rfl) (by kernel_rfl) (fun _ _ _ h => h) hst (EffB.skip rfl) (.inr (EffB.skip rfl)) ?_
    simp only [act_norm]
    refine wpAnyE_take 8 rfl (by kernel_rfl) (by kernel_rfl) (by kernel_rfl) (fun _ _ _ h => h) hst (EffB.skip rfl) (.inr (EffB.skip rfl)) ?_
    simp only [act_norm]
    refine wpAnyE_take 9 (v := .bool true) rfl (by kernel_rfl) (by kernel_rfl) (by kernel_rfl) (fun _ _ _ h => h) hst (EffB.run rfl rfl (fun wd hS => ?_)) (.inr (EffB.run rfl rfl (fun wd hS => ?_))) ?_
    · (go_wp2; exact ⟨rfl, Below.refl _ _⟩)
    · (go_wp2; exact ⟨rfl, Below.refl _ _⟩)
    simp only [act_norm]
    refine wpAnyE_take 10 rfl (by kernel_rfl) (by kernel_rfl) (by kernel_rfl) (fun _ _ _ h => h) hst (EffB.pure rfl (fun _ => rfl)) (.inr (EffB.pure rfl (fun _ => rfl))) ?_
    simp only [act_norm]
    refine wpAnyE_take 11 rfl (by kernel_rfl) (by kernel_rfl) (by kernel_rfl) (fun _ _ _ h => h) hst (EffB.pure rfl (fun _ => rfl)) (.inr (EffB.pure rfl (fun _ => rfl))) ?_
    simp only [act_norm]
    refine wpAnyE_take 12 (v := .int .i64 zz) rfl (by kernel_rfl) (by kernel_rfl) (by kernel_rfl) (fun _ _ _ h => h) hst (EffB.run rfl rfl (fun wd hS => ?_)) (.inl (by kernel_rfl)) ?_
    · (go_wp2_with fail; (with_reducible refine (z1 wd).mono ?_); rintro e w'' ⟨rfl, rfl⟩; exact ⟨rfl, Below.refl _ _⟩)
    simp only [act_norm]
    refine wpAnyE_take 13 (v := .int .u64 x) rfl (by kernel_rfl) (by kernel_rfl) (by kernel_rfl) (fun _ _ _ h => h) hst (EffB.run rfl rfl (fun wd hS => ?_)) (.inl (by kernel_rfl)) ?_
    · (go_wp2_with fail; (with_reducible refine (z2 wd).mono ?_); rintro e w'' ⟨rfl, rfl⟩; exact ⟨rfl, Below.refl _ _⟩)
    simp only [act_norm]
    refine wpAnyE_take 14 rfl (by kernel_rfl) (by kernel_rfl) (by kernel_rfl) (fun _ _ _ h => h) hst (EffB.pure rfl (fun _ => rfl)) (.inr (EffB.pure rfl (fun _ => rfl))) ?_
    simp only [act_norm]
    refine wpAnyE_take 15 (v := .bool true) rfl (by kernel_rfl) (by kernel_rfl) (by kernel_rfl) (fun _ _ _ h => h) hst (EffB.run rfl rfl (fun wd hS => ?_)) (.inr (EffB.run rfl rfl (fun wd hS => ?_))) ?_
    · (go_wp2; exact ⟨rfl, Below.refl _ _⟩)
    · (go_wp2; exact ⟨rfl, Below.refl _ _⟩)
    simp only [act_norm]
    refine wpAnyE_take 16 (v := .bool true) rfl (by kernel_rfl) (by kernel_rfl) (by kernel_rfl) (fun _ _ _ h => h) hst (EffB.run rfl rfl (fun wd hS => ?_)) (.inr (EffB.run rfl rfl (fun wd hS => ?_))) ?_
    · (go_wp2; exact ⟨rfl, Below.refl _ _⟩)
    · (go_wp2; exact ⟨rfl, Below.refl _ _⟩)
    simp only [act_norm]
    refine wpAnyE_take 17 rfl (by kernel_rfl) (by kernel_rfl) (by kernel_rfl) (fun _ _ _ h => h) hst (EffB.pure rfl (fun _ => rfl)) (.inr (EffB.pure rfl (fun _ => rfl))) ?_
    simp only [act_norm]
    refine wpAnyE_take 18 rfl (by kernel_rfl) (by kernel_rfl) (by kernel_rfl) (fun _ _ _ h => h) hst (EffB.pure rfl (fun _ => rfl)) (.inr (EffB.pure rfl (fun _ => rfl))) ?_
    simp only [act_norm]
    refine wpAnyE_take 19 (v := .int .i64 zz) rfl (by kernel_rfl) (by kernel_rfl) (by kernel_rfl) (fun _ _ _ h => h) hst (EffB.run rfl rfl (fun wd hS => ?_)) (.inl (by kernel_rfl)) ?_
    · (go_wp2_with fail; (with_reducible refine (z1 wd).mono ?_); rintro e w'' ⟨rfl, rfl⟩; exact ⟨rfl, Below.refl _ _⟩)
    simp only [act_norm]
    refine wpAnyE_take 20 rfl (by kernel_rfl) (by kernel_rfl) (by kernel_rfl) (fun _ _ _ h => h) hst (EffB.pure rfl (fun _ => rfl)) (.inr (EffB.pure rfl (fun _ => rfl))) ?_
    simp only [act_norm]
    refine wpAnyE_take 21 (v := .int .i64 zz) rfl (by kernel_rfl) (by kernel_rfl) (by kernel_rfl) (fun _ _ _ h => h) hst (EffB.run rfl rfl (fun wd hS => ?_)) (.inl (by kernel_rfl)) ?_
    · (go_wp2_with fail; (with_reducible refine (z3 wd).mono ?_); rintro e w'' ⟨rfl, rfl⟩; exact ⟨rfl, Below.refl _ _⟩)
    simp only [act_norm]
    refine wpAnyE_take 22 (v := .bool true) rfl (by kernel_rfl) (by kernel_rfl) (by kernel_rfl) (fun _ _ _ h => h) hst (EffB.run rfl rfl (fun wd hS => ?_)) (.inr (EffB.run rfl rfl (fun wd hS => ?_))) ?_
    · (go_wp2; exact ⟨rfl, Below.refl _ _⟩)
    · (go_wp2; exact ⟨rfl, Below.refl _ _⟩)
    simp only [act_norm]
    refine wpAnyE_take 23 (v := .bool true) rfl (by kernel_rfl) (by kernel_rfl) (by kernel_rfl) (fun _ _ _ h => h) hst (EffB.run rfl rfl (fun wd hS => ?_)) (.inr (EffB.run rfl rfl (fun wd hS => ?_))) ?_
    · (go_wp2; exact ⟨rfl, Below.refl _ _⟩)
    · (go_wp2; exact ⟨rfl, Below.refl _ _⟩)
    simp only [act_norm]
    refine wpAnyE_take 24 (v := .bool true) rfl (by kernel_rfl) (by kernel_rfl) (by kernel_rfl) (fun _ _ _ h => h) hst (EffB.run rfl rfl (fun wd hS => ?_)) (.inr (EffB.run rfl rfl (fun wd hS => ?_))) ?_
    · (go_wp2; exact ⟨rfl, Below.refl _ _⟩)
    · (go_wp2; exact ⟨rfl, Below.refl _ _⟩)
    simp only [act_norm]
    refine wpAnyE_done (by kernel_rfl) (fun wd hS => ?_) _
    go_wp2
    go_ret
    exact ⟨rfl, hS.1⟩

theorem bytes_of_ints {w : World} {p : Option Addr} {m : List Nat} (h : Ints .u8 w p (m.map Int.ofNat)) : Bytes w p m := by
  unfold Ints at h
  rw [List.length_map] at h
  rcases h with h | ⟨b, off, hp, hb, hc⟩
  · exact .inl h
  · refine .inr ⟨b, off, hp, hb, fun j hj => ?_⟩
    rw [hc j hj]
    have hj' : j < m.length := by omega
    simp [hj']
end Go.Proofs.Ytlniiicpelldaaa
