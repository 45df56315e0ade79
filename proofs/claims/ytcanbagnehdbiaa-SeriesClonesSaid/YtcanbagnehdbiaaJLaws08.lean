/- Layer 8: what the laws share. -/
import Derived.Test.YtcanbagnehdbiaaJSer14
import Derived.Test.YtcanbagnehdbiaaJSerO
namespace Go.Proofs.Ytcanbagnehdbiaa
open Go.ChangeShapes Go.WideShapes Go.ChangeAt Go.RowKit

theorem Ser.trim_filter (cut : Int) : ∀ {L : List Samp}, Ser.Sorted L → L.filter (fun a => decide (cut ≤ a.tick)) = L.drop (Ser.place L cut)
  | [], _ => rfl
  | a :: L, h => by
    obtain ⟨h1, h2⟩ := Ser.sorted_tail h
    by_cases ha : a.tick < cut
    · have e : Ser.place (a :: L) cut = Ser.place L cut + 1 := by unfold Ser.place; rw [List.takeWhile_cons, if_pos (decide_eq_true ha)]; rfl
      rw [e, List.filter_cons, if_neg (by simpa using ha), Ser.trim_filter cut h1]
      rfl
    · have e : Ser.place (a :: L) cut = 0 := by unfold Ser.place; rw [List.takeWhile_cons, if_neg (by simpa using ha)]; rfl
      rw [e, List.filter_eq_self.2 (fun b hb => by
        rcases List.mem_cons.1 hb with rfl | hb
        · simp; omega
        · have := h2 b hb; simp; omega)]
      rfl
def Ser.cutk (cut : Int) (L : List Samp) (k : Nat) : List Samp := (L.take k).filter (fun a => decide (cut ≤ a.tick))
theorem Ser.cutk_next (cut : Int) (L : List Samp) (k : Nat) (h : k < L.length) : Ser.cutk cut L (k + 1) = Ser.cutk cut L k ++ (if cut ≤ (L[k]?.getD default).tick then [L[k]?.getD default] else []) := by
  unfold Ser.cutk
  rw [List.take_succ_eq_append_getElem h, List.filter_append, List.getElem?_eq_getElem h]
  show _ ++ List.filter _ [L[k]] = _ ++ (if cut ≤ L[k].tick then [L[k]] else [])
  by_cases hc : cut ≤ L[k].tick
  · rw [if_pos hc, List.filter_cons, if_pos (decide_eq_true hc)]; rfl
  · rw [if_neg hc, List.filter_cons, if_neg (by simpa using hc)]; rfl

set_option maxHeartbeats 1000000 in
set_option maxRecDepth 100000 in
theorem ref08_trim (p : Option Addr) (n c : Nat) (L : List Samp) (hn : L.length = n) (hsrt : Ser.Sorted L) (cut : Int) (hb : n ≤ 100000) (w : World) (hs : Samps w p L) :
    Calls Try.prog 38 #[.slice p n c, .int .i64 cut] w (RetOwns w 2 (L.drop (Ser.place L cut)).length (sampVals (L.drop (Ser.place L cut)))) := by
  have HS := Lib.hid hs
  have HG : Hid (Ser.cutk cut L n = L.drop (Ser.place L cut)) := by show _ = _; unfold Ser.cutk; rw [← hn, List.take_length]; exact Ser.trim_filter cut hsrt
  have HNX := Lib.hid (Ser.cutk_next cut L)
  have HZ : Hid (Ser.cutk cut L 0 = []) := rfl
  have HLE : Hid (∀ k, (Ser.cutk cut L k).length ≤ k) := fun k => Nat.le_trans (List.length_filter_le _ _) (by rw [List.length_take]; omega)
  obtain ⟨r, hr⟩ : ∃ r, r = L.drop (Ser.place L cut) := ⟨_, rfl⟩
  rw [← hr] at HG ⊢
  obtain ⟨f, ef⟩ : ∃ f, f = Ser.cutk cut L := ⟨_, rfl⟩
  rw [← ef] at HG HNX HZ HLE
  have HN := Lib.hid hn
  clear hs hn hr ef hsrt
  go_enter Try.func38, Try.ntmps38
  go_wp2
  go_loopw [5, 6] (fun v i wr => ∃ k : Nat, k ≤ n ∧ i = .int .i64 k ∧ Owns wr w.heap.size 2 v (f k).length (sampVals (f k)) ∧ Below w.heap.size w wr) (fun _ i _ => n - (intOf i).toNat)
  case atStart => exact ⟨0, by omega, rfl, by rw [HZ.out]; exact owns_nil _ _ _, Below.refl _ _⟩
  case round =>
    obtain ⟨k, hk, rfl, hO, hB⟩ := hrel
    by_cases hlt : k < n
    · have hkl : k < L.length := by have := HN.out; omega
      obtain ⟨b, off, rfl, hbw, _⟩ := HS.out.cells k hkl
      obtain ⟨c0, c1⟩ := HS.out.cc k hkl wr hB
      have hsn := HNX.out k hkl
      have hle := HLE.out k
      obtain ⟨a, ha⟩ : ∃ a, a = L[k]?.getD default := ⟨_, rfl⟩
      rw [← ha] at c0 c1 hsn
      obtain ⟨xs, hxs⟩ : ∃ s, s = f k := ⟨_, rfl⟩
      rw [← hxs] at hsn hle hO
      have HO := Lib.hid hO
      have hBW := hB
      have HB := Lib.hid hB
      have hkn : (k : Int) < n := by omega
      have hk0 : (0 : Int) ≤ k := by omega
      clear ha hxs hkl hO hB
      by_cases hin : cut ≤ a.tick
      · rw [if_pos hin] at hsn
        have HSN := Lib.hid hsn
        clear hsn
        go_wp2_with (at_builtin; refine wpList_append_new rfl _ _ 33 rfl _ _ 73 rfl _ 73 (.agg #[.int .i64 0, .int .i64 0]) 2 16 Try.underlying33 sampInfo rfl (by decide) _ _ _ rfl (HO.out) (by first | rfl | (rw [World.size_alloc]; rfl)) rfl (by first | (simp [Value.oneCell']; done) | (intro u hu; simp at hu; subst hu; rfl)) (by unfold maxLen; omega) (by omega) (Below.size (by assumption)) ?_; intro u1 x1 ha1 hg1 hc1)
        exact ⟨⟨k + 1, by omega, by go_num, by rw [HSN.out, sampVals_append, List.length_append]; exact ha1, HB.out.trans hc1⟩, by simp [intOf]; omega⟩
      · rw [if_neg hin, List.append_nil] at hsn
        have HSN := Lib.hid hsn
        clear hsn
        go_wp2
        exact ⟨⟨k + 1, by omega, by go_num, by rw [HSN.out]; exact HO.out, HB.out⟩, by simp [intOf]; omega⟩
    · obtain rfl : k = n := by omega
      rw [HG.out] at hO
      go_wp2
      go_ret
      exact ⟨_, rfl, hO, hB⟩

theorem ser_list2 {w : World} {B s : Nat} {v : Value} {room n : Nat} {L : List Samp} (h : SerAt w B s v room L) (hn : L.length = n) :
    Calls Try.prog 47 #[.pointer (some ⟨s, 0, none⟩)] w fun e w' => ∃ p c, e = .returned (.slice p n c) ∧ Samps w' p L ∧ Below w.heap.size w w' := by
  subst hn
  exact (ser_list h).mono fun e w' ⟨p, c, h1, _, h2, h3⟩ => ⟨p, c, h1, h2, h3⟩

set_option maxHeartbeats 2000000 in
set_option maxRecDepth 100000 in
theorem told08 {w : World} {B s : Nat} {v : Value} {room : Nat} {L : List Samp} (h : SerAt w B s v room L) (q : Option Addr) (c : Nat) (hs : Samps w q L) :
    Calls Try.prog 44 #[.pointer (some ⟨s, 0, none⟩), .slice q L.length c] w fun e w' => e = .returned (.bool true) ∧ Below w.heap.size w w' := by
  have h256 : L.length ≤ 256 := Nat.le_trans h.len h.room2
  have HSE := Lib.hid h
  have HS := Lib.hid hs
  have G1 := Lib.hid (fun (W : World) (hb : Below w.heap.size w W) => ser_len (h.below hb))
  have G2 := Lib.hid (fun (W : World) (hb : Below w.heap.size w W) => ser_list2 (h.below hb) rfl)
  have G3 := Lib.hid (fun (q1 : Option Addr) (c1 : Nat) (W : World) (h1 : Samps W q1 L) (h2 : Samps W q L) => ref08_alike q1 q L.length c1 c L rfl (by omega) W h1 h2)
  by_cases h0 : L.length = 0
  · have P := Lib.hid (ser_last_empty h h0)
    rw [h0] at G1 G2 G3 ⊢
    clear h hs
    have hst := fun X : Nat => stab_mem (w := w) (bs := [(X, .cells #[.int .i64 0, .int .i64 0] 73)])
    go_enter Try.func44, Try.ntmps44
    go_wp2_with fail
    (with_reducible refine P.out.mono ?_)
    rintro e w1 ⟨rfl, hb1⟩
    have M1 := Lib.hid (((Mem.start w).call hb1).alloc (.cells #[.int .i64 0, .int .i64 0] 73))
    clear hb1 P
    go_wp2_with fail
    obtain ⟨X, hX⟩ : ∃ X, w1.heap.size = X := ⟨_, rfl⟩
    rw [hX] at M1
    try rw [hX]
    have hst := hst X
    refine wp_region_E mixed [] hst (M1.out.drewN 1) ?_
    clear M1 hX
    refine wpAnyE_take 0 rfl (by kernel_rfl) (by kernel_rfl) (by kernel_rfl) (fun _ _ _ h => h) hst (EffB.pure rfl (fun _ => rfl)) (.inr (EffB.pure rfl (fun _ => rfl))) ?_
    simp only [act_norm]
    refine wpAnyE_take 1 rfl (by kernel_rfl) (by kernel_rfl) (by kernel_rfl) (fun _ _ _ h => h) hst (EffB.pure rfl (fun _ => rfl)) (.inr (EffB.pure rfl (fun _ => rfl))) ?_
    simp only [act_norm]
    refine wpAnyE_take 2 (v := .int .i64 ((0 : Nat) : Int)) rfl (by kernel_rfl) (by kernel_rfl) (by kernel_rfl) (fun _ _ _ h => h) hst (EffB.run rfl rfl (fun wd hS => ?_)) (.inr (EffB.run rfl rfl (fun wd hS => ?_))) ?_
    · (go_wp2; exact ⟨rfl, Below.refl _ _⟩)
    · (go_wp2; exact ⟨rfl, Below.refl _ _⟩)
    simp only [act_norm]
    refine wpAnyE_take 3 (v := .bool false) rfl (by kernel_rfl) (by kernel_rfl) (by kernel_rfl) (fun _ _ _ h => h) hst (EffB.run rfl rfl (fun wd hS => ?_)) (.inr (EffB.run rfl rfl (fun wd hS => ?_))) ?_
    · (go_wp2; exact ⟨rfl, Below.refl _ _⟩)
    · (go_wp2; exact ⟨rfl, Below.refl _ _⟩)
    simp only [act_norm]
    refine wpAnyE_take 4 (v := .bool false) rfl (by kernel_rfl) (by kernel_rfl) (by kernel_rfl) (fun _ _ _ h => h) hst (EffB.run rfl rfl (fun wd hS => ?_)) (.inr (EffB.run rfl rfl (fun wd hS => ?_))) ?_
    · (go_wp2; exact ⟨rfl, Below.refl _ _⟩)
    · (go_wp2; exact ⟨rfl, Below.refl _ _⟩)
    simp only [act_norm]
    refine wpAnyE_take 5 rfl (by kernel_rfl) (by kernel_rfl) (by kernel_rfl) (fun _ _ _ h => h) hst (EffB.pure rfl (fun _ => rfl)) (.inr (EffB.pure rfl (fun _ => rfl))) ?_
    simp only [act_norm]
    refine wpAnyE_take 6 rfl (by kernel_rfl) (by kernel_rfl) (by kernel_rfl) (fun _ _ _ h => h) hst (EffB.pure rfl (fun _ => rfl)) (.inr (EffB.pure rfl (fun _ => rfl))) ?_
    simp only [act_norm]
    refine wpAnyE_take 7 rfl (by kernel_rfl) (by kernel_rfl) (by kernel_rfl) (fun _ _ _ h => h) hst (EffB.pure rfl (fun _ => rfl)) (.inr (EffB.pure rfl (fun _ => rfl))) ?_
    simp only [act_norm]
    refine wpAnyE_take 8 rfl (by kernel_rfl) (by kernel_rfl) (by kernel_rfl) (fun _ _ _ h => h) hst (EffB.skip rfl) (.inr (EffB.skip rfl)) ?_
    simp only [act_norm]
    refine wpAnyE_take 9 rfl (by kernel_rfl) (by kernel_rfl) (by kernel_rfl) (fun _ _ _ h => h) hst (EffB.skip rfl) (.inr (EffB.skip rfl)) ?_
    simp only [act_norm]
    refine wpAnyE_take 10 rfl (by kernel_rfl) (by kernel_rfl) (by kernel_rfl) (fun _ _ _ h => h) hst (EffB.skip rfl) (.inr (EffB.skip rfl)) ?_
    simp only [act_norm]
    refine wpAnyE_take 11 rfl (by kernel_rfl) (by kernel_rfl) (by kernel_rfl) (fun _ _ _ h => h) hst (EffB.skip rfl) (.inr (EffB.skip rfl)) ?_
    simp only [act_norm]
    refine wpAnyE_take 12 rfl (by kernel_rfl) (by kernel_rfl) (by kernel_rfl) (fun _ _ _ h => h) hst (EffB.skip rfl) (.inr (EffB.skip rfl)) ?_
    simp only [act_norm]
    refine wpAnyE_take 13 rfl (by kernel_rfl) (by kernel_rfl) (by kernel_rfl) (fun _ _ _ h => h) hst (EffB.skip rfl) (.inr (EffB.skip rfl)) ?_
    simp only [act_norm]
    refine wpAnyE_take 14 rfl (by kernel_rfl) (by kernel_rfl) (by kernel_rfl) (fun _ _ _ h => h) hst (EffB.skip rfl) (.inr (EffB.skip rfl)) ?_
    simp only [act_norm]
    refine wpAnyE_take 15 rfl (by kernel_rfl) (by kernel_rfl) (by kernel_rfl) (fun _ _ _ h => h) hst (EffB.skip rfl) (.inr (EffB.skip rfl)) ?_
    simp only [act_norm]
    refine wpAnyE_take 16 (v := .bool false) rfl (by kernel_rfl) (by kernel_rfl) (by kernel_rfl) (fun _ _ _ h => h) hst (EffB.run rfl rfl (fun wd hS => ?_)) (.inr (EffB.run rfl rfl (fun wd hS => ?_))) ?_
    · (go_wp2; exact ⟨rfl, Below.refl _ _⟩)
    · (go_wp2; exact ⟨rfl, Below.refl _ _⟩)
    simp only [act_norm]
    refine wpAnyE_take 17 (v := .bool false) rfl (by kernel_rfl) (by kernel_rfl) (by kernel_rfl) (fun _ _ _ h => h) hst (EffB.run rfl rfl (fun wd hS => ?_)) (.inr (EffB.run rfl rfl (fun wd hS => ?_))) ?_
    · (go_wp2; exact ⟨rfl, Below.refl _ _⟩)
    · (go_wp2; exact ⟨rfl, Below.refl _ _⟩)
    simp only [act_norm]
    refine wpAnyE_take 18 rfl (by kernel_rfl) (by kernel_rfl) (by kernel_rfl) (fun _ _ _ h => h) hst (EffB.pure rfl (fun _ => rfl)) (.inr (EffB.pure rfl (fun _ => rfl))) ?_
    simp only [act_norm]
    refine wpAnyE_take 19 rfl (by kernel_rfl) (by kernel_rfl) (by kernel_rfl) (fun _ _ _ h => h) hst (EffB.pure rfl (fun _ => rfl)) (.inr (EffB.pure rfl (fun _ => rfl))) ?_
    simp only [act_norm]
    refine wpAnyE_take 20 (v := .bool true) rfl (by kernel_rfl) (by kernel_rfl) (by kernel_rfl) (fun _ _ _ h => h) hst (EffB.run rfl rfl (fun wd hS => ?_)) (.inr (EffB.run rfl rfl (fun wd hS => ?_))) ?_
    · (go_wp2; exact ⟨rfl, Below.refl _ _⟩)
    · (go_wp2; exact ⟨rfl, Below.refl _ _⟩)
    simp only [act_norm]
    refine wpAnyE_take 21 rfl (by kernel_rfl) (by kernel_rfl) (by kernel_rfl) (fun _ _ _ h => h) hst (EffB.pure rfl (fun _ => rfl)) (.inr (EffB.pure rfl (fun _ => rfl))) ?_
    simp only [act_norm]
    refine wpAnyE_take 22 (v := .agg #[.int .i64 0, .int .i64 0]) rfl (by kernel_rfl) (by kernel_rfl) (by kernel_rfl) (fun _ _ _ h => h) hst (EffB.run rfl rfl (fun wd hS => ?_)) (.inl (by kernel_rfl)) ?_
    · exact wp_load_row 73 _ rfl (X) rfl 73 #[.int .i64 0, .int .i64 0] (0, 0) _ (hS.heap 0 rfl) Try.underlying73 rfl (by kernel_rfl) ⟨rfl, Below.refl _ _⟩
    simp only [act_norm]
    refine wpAnyE_take 23 (v := .agg #[.int .i64 0, .int .i64 0]) rfl (by kernel_rfl) (by kernel_rfl) (by kernel_rfl) (fun _ _ _ h => h) hst (EffB.run rfl rfl (fun wd hS => ?_)) (.inr (EffB.run rfl rfl (fun wd hS => ?_))) ?_
    · (go_wp2; exact ⟨rfl, Below.refl _ _⟩)
    · (go_wp2; exact ⟨rfl, Below.refl _ _⟩)
    simp only [act_norm]
    refine wpAnyE_take 24 (v := .bool false) rfl (by kernel_rfl) (by kernel_rfl) (by kernel_rfl) (fun _ _ _ h => h) hst (EffB.run rfl rfl (fun wd hS => ?_)) (.inl (by kernel_rfl)) ?_
    · exact wp_neq_agg _ _ _ _ rfl _ _ rfl rfl true (by kernel_rfl) (samp_equal_yes ⟨0, 0⟩ _) ⟨rfl, Below.refl _ _⟩
    simp only [act_norm]
    refine wpAnyE_take 25 (v := .bool false) rfl (by kernel_rfl) (by kernel_rfl) (by kernel_rfl) (fun _ _ _ h => h) hst (EffB.run rfl rfl (fun wd hS => ?_)) (.inr (EffB.run rfl rfl (fun wd hS => ?_))) ?_
    · (go_wp2; exact ⟨rfl, Below.refl _ _⟩)
    · (go_wp2; exact ⟨rfl, Below.refl _ _⟩)
    simp only [act_norm]
    refine wpAnyE_take 26 (v := .bool false) rfl (by kernel_rfl) (by kernel_rfl) (by kernel_rfl) (fun _ _ _ h => h) hst (EffB.run rfl rfl (fun wd hS => ?_)) (.inr (EffB.run rfl rfl (fun wd hS => ?_))) ?_
    · (go_wp2; exact ⟨rfl, Below.refl _ _⟩)
    · (go_wp2; exact ⟨rfl, Below.refl _ _⟩)
    simp only [act_norm]
    refine wpAnyE_done (by kernel_rfl) (fun wd hS => ?_) _
    have B2 := Lib.hid hS.below
    clear hS hst
    go_wp2_with ((with_reducible refine (G1.out _ B2.out).mono ?_); rintro e w5 ⟨rfl, rfl⟩)
    (with_reducible refine (G2.out _ B2.out).mono ?_)
    rintro e w3 ⟨q3, c3, rfl, hs3, hb3⟩
    have B3 := Lib.hid (B2.out.trans (hb3.mono B2.out.size))
    have S3 := Lib.hid hs3
    clear hs3 hb3 B2
    go_wp2_with fail
    (with_reducible refine (G3.out q3 c3 _ S3.out (HS.out.below B3.out)).mono ?_)
    rintro e w4 ⟨rfl, hb4⟩
    have B4 := Lib.hid (B3.out.trans (hb4.mono B3.out.size))
    clear hb4
    go_wp2
    go_ret
    exact ⟨rfl, B4.out⟩
  · obtain ⟨⟨y0, y1⟩, ey⟩ : ∃ y, y = L[L.length - 1]?.getD default := ⟨_, rfl⟩
    have hy : L[L.length - 1]? = some ⟨y0, y1⟩ := by
      rw [List.getElem?_eq_getElem (by omega)]
      rw [ey]
      rw [List.getElem?_eq_getElem (by omega)]; rfl
    have P := Lib.hid (ser_last h (by omega) ⟨y0, y1⟩ hy)
    obtain ⟨b, off, rfl, hbw, _⟩ := hs.cells 0 (by omega)
    have hcc := fun (W : World) (hb : Below w.heap.size w W) => HS.out.cc (L.length - 1) (by omega) W hb
    rw [← ey] at hcc
    obtain ⟨m, em⟩ : ∃ m, L.length = m + 1 := ⟨L.length - 1, by omega⟩
    rw [em, show m + 1 - 1 = m by omega] at hcc
    have CC := Lib.hid hcc
    rw [em] at G1 G2 G3 h256 ⊢
    have hw256 := Lib.hid (show wrap64 (m : Int) = m by unfold wrap64; omega)
    have hst := fun X : Nat => stab_mem (w := w) (bs := [(X, .cells #[.int .i64 y0, .int .i64 y1] 73)])
    clear h hs hy ey hcc h0 em hbw
    go_enter Try.func44, Try.ntmps44
    go_wp2_with fail
    (with_reducible refine P.out.mono ?_)
    rintro e w1 ⟨rfl, hb1⟩
    have M1 := Lib.hid (((Mem.start w).call hb1).alloc (.cells #[.int .i64 y0, .int .i64 y1] 73))
    clear hb1 P
    go_wp2_with fail
    obtain ⟨X, hX⟩ : ∃ X, w1.heap.size = X := ⟨_, rfl⟩
    rw [hX] at M1
    try rw [hX]
    have hst := hst X
    refine wp_region_E mixed [] hst (M1.out.drewN 1) ?_
    clear M1 hX
    refine wpAnyE_take 0 rfl (by kernel_rfl) (by kernel_rfl) (by kernel_rfl) (fun _ _ _ h => h) hst (EffB.pure rfl (fun _ => rfl)) (.inr (EffB.pure rfl (fun _ => rfl))) ?_
    simp only [act_norm]
    refine wpAnyE_take 1 rfl (by kernel_rfl) (by kernel_rfl) (by kernel_rfl) (fun _ _ _ h => h) hst (EffB.pure rfl (fun _ => rfl)) (.inr (EffB.pure rfl (fun _ => rfl))) ?_
    simp only [act_norm]
    refine wpAnyE_take 2 (v := .int .i64 ((m + 1 : Nat) : Int)) rfl (by kernel_rfl) (by kernel_rfl) (by kernel_rfl) (fun _ _ _ h => h) hst (EffB.run rfl rfl (fun wd hS => ?_)) (.inr (EffB.run rfl rfl (fun wd hS => ?_))) ?_
    · (go_wp2; exact ⟨rfl, Below.refl _ _⟩)
    · (go_wp2; exact ⟨rfl, Below.refl _ _⟩)
    simp only [act_norm]
    refine wpAnyE_take 3 (v := .bool true) rfl (by kernel_rfl) (by kernel_rfl) (by kernel_rfl) (fun _ _ _ h => h) hst (EffB.run rfl rfl (fun wd hS => ?_)) (.inr (EffB.run rfl rfl (fun wd hS => ?_))) ?_
    · (go_wp2; exact ⟨rfl, Below.refl _ _⟩)
    · (go_wp2; exact ⟨rfl, Below.refl _ _⟩)
    simp only [act_norm]
    refine wpAnyE_take 4 (v := .bool false) rfl (by kernel_rfl) (by kernel_rfl) (by kernel_rfl) (fun _ _ _ h => h) hst (EffB.run rfl rfl (fun wd hS => ?_)) (.inr (EffB.run rfl rfl (fun wd hS => ?_))) ?_
    · (go_wp2; exact ⟨rfl, Below.refl _ _⟩)
    · (go_wp2; exact ⟨rfl, Below.refl _ _⟩)
    simp only [act_norm]
    refine wpAnyE_take 5 rfl (by kernel_rfl) (by kernel_rfl) (by kernel_rfl) (fun _ _ _ h => h) hst (EffB.pure rfl (fun _ => rfl)) (.inr (EffB.pure rfl (fun _ => rfl))) ?_
    simp only [act_norm]
    refine wpAnyE_take 6 rfl (by kernel_rfl) (by kernel_rfl) (by kernel_rfl) (fun _ _ _ h => h) hst (EffB.pure rfl (fun _ => rfl)) (.inr (EffB.pure rfl (fun _ => rfl))) ?_
    simp only [act_norm]
    refine wpAnyE_take 7 rfl (by kernel_rfl) (by kernel_rfl) (by kernel_rfl) (fun _ _ _ h => h) hst (EffB.pure rfl (fun _ => rfl)) (.inr (EffB.pure rfl (fun _ => rfl))) ?_
    simp only [act_norm]
    refine wpAnyE_take 8 (v := .agg #[.int .i64 y0, .int .i64 y1]) rfl (by kernel_rfl) (by kernel_rfl) (by kernel_rfl) (fun _ _ _ h => h) hst (EffB.run rfl rfl (fun wd hS => ?_)) (.inl (by kernel_rfl)) ?_
    · exact wp_load_row 73 _ rfl (X) rfl 73 #[.int .i64 y0, .int .i64 y1] (0, 0) _ (hS.heap 0 rfl) Try.underlying73 rfl (by kernel_rfl) ⟨rfl, Below.refl _ _⟩
    simp only [act_norm]
    refine wpAnyE_take 9 rfl (by kernel_rfl) (by kernel_rfl) (by kernel_rfl) (fun _ _ _ h => h) hst (EffB.pure rfl (fun _ => rfl)) (.inr (EffB.pure rfl (fun _ => rfl))) ?_
    simp only [act_norm]
    refine wpAnyE_take 10 rfl (by kernel_rfl) (by kernel_rfl) (by kernel_rfl) (fun _ _ _ h => h) hst (EffB.pure rfl (fun _ => rfl)) (.inr (EffB.pure rfl (fun _ => rfl))) ?_
    simp only [act_norm]
    refine wpAnyE_take 11 (v := .int .i64 ((m + 1 : Nat) : Int)) rfl (by kernel_rfl) (by kernel_rfl) (by kernel_rfl) (fun _ _ _ h => h) hst (EffB.run rfl rfl (fun wd hS => ?_)) (.inr (EffB.run rfl rfl (fun wd hS => ?_))) ?_
    · (go_wp2; exact ⟨rfl, Below.refl _ _⟩)
    · (go_wp2; exact ⟨rfl, Below.refl _ _⟩)
    simp only [act_norm]
    refine wpAnyE_take 12 (v := .int .i64 (m : Int)) rfl (by kernel_rfl) (by kernel_rfl) (by kernel_rfl) (fun _ _ _ h => h) hst (EffB.run rfl rfl (fun wd hS => ?_)) (.inr (EffB.run rfl rfl (fun wd hS => ?_))) ?_
    · (go_wp2; exact ⟨rfl, Below.refl _ _⟩)
    · (go_wp2; exact ⟨rfl, Below.refl _ _⟩)
    simp only [act_norm]
    try rw [hw256.out]
    refine wpAnyE_take 13 (v := .pointer (some ⟨b, off + m * 2, none⟩)) rfl (by kernel_rfl) (by kernel_rfl) (by kernel_rfl) (fun _ _ _ h => h) hst (EffB.run rfl rfl (fun wd hS => ?_)) (.inr (EffB.run rfl rfl (fun wd hS => ?_))) ?_
    · (go_wp2; exact ⟨rfl, Below.refl _ _⟩)
    · (go_wp2; exact ⟨rfl, Below.refl _ _⟩)
    simp only [act_norm]
    refine wpAnyE_take 14 (v := .agg #[.int .i64 y0, .int .i64 y1]) rfl (by kernel_rfl) (by kernel_rfl) (by kernel_rfl) (fun _ _ _ h => h) hst (EffB.run rfl rfl (fun wd hS => ?_)) (.inl (by kernel_rfl)) ?_
    · obtain ⟨c0, c1⟩ := CC.out wd hS.below; go_wp2; exact ⟨rfl, Below.refl _ _⟩
    simp only [act_norm]
    refine wpAnyE_take 15 (v := .bool false) rfl (by kernel_rfl) (by kernel_rfl) (by kernel_rfl) (fun _ _ _ h => h) hst (EffB.run rfl rfl (fun wd hS => ?_)) (.inl (by kernel_rfl)) ?_
    · exact wp_neq_agg _ _ _ _ rfl _ _ rfl rfl true (by kernel_rfl) (samp_equal_yes ⟨y0, y1⟩ _) ⟨rfl, Below.refl _ _⟩
    simp only [act_norm]
    refine wpAnyE_take 16 (v := .bool false) rfl (by kernel_rfl) (by kernel_rfl) (by kernel_rfl) (fun _ _ _ h => h) hst (EffB.run rfl rfl (fun wd hS => ?_)) (.inr (EffB.run rfl rfl (fun wd hS => ?_))) ?_
    · (go_wp2; exact ⟨rfl, Below.refl _ _⟩)
    · (go_wp2; exact ⟨rfl, Below.refl _ _⟩)
    simp only [act_norm]
    refine wpAnyE_take 17 (v := .bool false) rfl (by kernel_rfl) (by kernel_rfl) (by kernel_rfl) (fun _ _ _ h => h) hst (EffB.run rfl rfl (fun wd hS => ?_)) (.inr (EffB.run rfl rfl (fun wd hS => ?_))) ?_
    · (go_wp2; exact ⟨rfl, Below.refl _ _⟩)
    · (go_wp2; exact ⟨rfl, Below.refl _ _⟩)
    simp only [act_norm]
    refine wpAnyE_take 18 rfl (by kernel_rfl) (by kernel_rfl) (by kernel_rfl) (fun _ _ _ h => h) hst (EffB.pure rfl (fun _ => rfl)) (.inr (EffB.pure rfl (fun _ => rfl))) ?_
    simp only [act_norm]
    refine wpAnyE_take 19 rfl (by kernel_rfl) (by kernel_rfl) (by kernel_rfl) (fun _ _ _ h => h) hst (EffB.pure rfl (fun _ => rfl)) (.inr (EffB.pure rfl (fun _ => rfl))) ?_
    simp only [act_norm]
    refine wpAnyE_take 20 (v := .bool false) rfl (by kernel_rfl) (by kernel_rfl) (by kernel_rfl) (fun _ _ _ h => h) hst (EffB.run rfl rfl (fun wd hS => ?_)) (.inr (EffB.run rfl rfl (fun wd hS => ?_))) ?_
    · (go_wp2; exact ⟨rfl, Below.refl _ _⟩)
    · (go_wp2; exact ⟨rfl, Below.refl _ _⟩)
    simp only [act_norm]
    refine wpAnyE_take 21 rfl (by kernel_rfl) (by kernel_rfl) (by kernel_rfl) (fun _ _ _ h => h) hst (EffB.pure rfl (fun _ => rfl)) (.inr (EffB.pure rfl (fun _ => rfl))) ?_
    simp only [act_norm]
    refine wpAnyE_take 22 rfl (by kernel_rfl) (by kernel_rfl) (by kernel_rfl) (fun _ _ _ h => h) hst (EffB.skip rfl) (.inr (EffB.skip rfl)) ?_
    simp only [act_norm]
    refine wpAnyE_take 23 rfl (by kernel_rfl) (by kernel_rfl) (by kernel_rfl) (fun _ _ _ h => h) hst (EffB.skip rfl) (.inr (EffB.skip rfl)) ?_
    simp only [act_norm]
    refine wpAnyE_take 24 rfl (by kernel_rfl) (by kernel_rfl) (by kernel_rfl) (fun _ _ _ h => h) hst (EffB.skip rfl) (.inr (EffB.skip rfl)) ?_
    simp only [act_norm]
    refine wpAnyE_take 25 (v := .bool false) rfl (by kernel_rfl) (by kernel_rfl) (by kernel_rfl) (fun _ _ _ h => h) hst (EffB.run rfl rfl (fun wd hS => ?_)) (.inr (EffB.run rfl rfl (fun wd hS => ?_))) ?_
    · (go_wp2; exact ⟨rfl, Below.refl _ _⟩)
    · (go_wp2; exact ⟨rfl, Below.refl _ _⟩)
    simp only [act_norm]
    refine wpAnyE_take 26 (v := .bool false) rfl (by kernel_rfl) (by kernel_rfl) (by kernel_rfl) (fun _ _ _ h => h) hst (EffB.run rfl rfl (fun wd hS => ?_)) (.inr (EffB.run rfl rfl (fun wd hS => ?_))) ?_
    · (go_wp2; exact ⟨rfl, Below.refl _ _⟩)
    · (go_wp2; exact ⟨rfl, Below.refl _ _⟩)
    simp only [act_norm]
    refine wpAnyE_done (by kernel_rfl) (fun wd hS => ?_) _
    have B2 := Lib.hid hS.below
    clear hS hst CC
    go_wp2_with ((with_reducible refine (G1.out _ B2.out).mono ?_); rintro e w5 ⟨rfl, rfl⟩)
    (with_reducible refine (G2.out _ B2.out).mono ?_)
    rintro e w3 ⟨q3, c3, rfl, hs3, hb3⟩
    have B3 := Lib.hid (B2.out.trans (hb3.mono B2.out.size))
    have S3 := Lib.hid hs3
    clear hs3 hb3 B2
    go_wp2_with fail
    (with_reducible refine (G3.out q3 c3 _ S3.out (HS.out.below B3.out)).mono ?_)
    rintro e w4 ⟨rfl, hb4⟩
    have B4 := Lib.hid (B3.out.trans (hb4.mono B3.out.size))
    clear hb4
    go_wp2
    go_ret
    exact ⟨rfl, B4.out⟩

set_option maxHeartbeats 1000000 in
set_option maxRecDepth 100000 in
theorem awake08 (w : World) : Calls Try.prog 36 #[] w fun e w' => e = .returned (.bool true) ∧ Below w.heap.size w w' := by
  have h1 : Calls Try.prog 45 #[.int .i64 2, .slice (some ⟨w.heap.size, 0, none⟩) 3 3] (w.alloc (.cells #[.int .i64 5, .int .i64 0, .int .i64 7, .int .i64 0, .int .i64 6, .int .i64 1] 73))
      fun e w' => ∃ s v, e = .returned (.pointer (some ⟨s, 0, none⟩)) ∧ SerAt w' (w.heap.size + 1) s v 2 [⟨6, 1⟩, ⟨7, 0⟩] ∧ Below w.heap.size w w' := by
    have := ser_of (some ⟨w.heap.size, 0, none⟩) 3 [⟨5, 0⟩, ⟨7, 0⟩, ⟨6, 1⟩] (by simp) 2 (by omega) (by omega) _ (samps_alloc w [⟨5, 0⟩, ⟨7, 0⟩, ⟨6, 1⟩] 73 _ rfl)
    rw [show Ser.of 2 [⟨5, 0⟩, ⟨7, 0⟩, ⟨6, 1⟩] [(⟨5, 0⟩ : Samp), ⟨7, 0⟩, ⟨6, 1⟩].length = [⟨6, 1⟩, ⟨7, 0⟩] by decide +kernel] at this
    exact this.mono fun e w' ⟨s, v, a, b, d⟩ => ⟨s, v, a, by simpa using b, (below1 w _).trans (d.mono (by simp))⟩
  have H1 := Lib.hid h1
  clear h1
  go_enter Try.func36, Try.ntmps36
  go_wp2_with fail
  (with_reducible refine H1.out.mono ?_)
  rintro e w1 ⟨s, v, rfl, hser, hb1⟩
  have M1 := Lib.hid ((Mem.start w).call hb1)
  have G2 := Lib.hid (ser_list2 hser (n := 2) rfl)
  have HB : Hid (Below w.heap.size w w1) := hb1
  have h3 : ∀ W : World, Calls Try.prog 41 #[.pointer (some ⟨s, 0, none⟩), .int .i64 (-1), .int .i64 (-1)] W fun e w' => e = .returned (.int .i64 3) ∧ W = w' := fun W => ser_put_bad ⟨-1, -1⟩ (by decide) W
  have H3 := Lib.hid h3
  clear hser hb1 H1 h3
  go_wp2_with fail
  (with_reducible refine G2.out.mono ?_)
  rintro e w2 ⟨q2, c2, rfl, hs2, hb2⟩
  have M2 := Lib.hid ((M1.out.call hb2).alloc (.cells #[.int .i64 6, .int .i64 1, .int .i64 7, .int .i64 0] 73))
  have S2 := Lib.hid (hs2.below (below1 w2 (.cells #[.int .i64 6, .int .i64 1, .int .i64 7, .int .i64 0] 73)))
  have T2 := Lib.hid (samps_alloc w2 [⟨6, 1⟩, ⟨7, 0⟩] 73 #[.int .i64 6, .int .i64 1, .int .i64 7, .int .i64 0] rfl)
  have G4 := Lib.hid (ref08_alike q2 (some ⟨w2.heap.size, 0, none⟩) 2 c2 2 [⟨6, 1⟩, ⟨7, 0⟩] rfl (by omega) _ S2.out T2.out)
  clear hs2 hb2 G2 M1
  go_wp2_with fail
  (with_reducible refine G4.out.mono ?_)
  rintro e w3 ⟨rfl, hb3⟩
  have M3 := Lib.hid (M2.out.call hb3)
  clear hb3 G4
  go_wp2_with ((with_reducible refine (H3.out _).mono ?_); rintro e w5 ⟨rfl, rfl⟩)
  go_ret
  exact ⟨rfl, M3.out.below⟩
end Go.Proofs.Ytcanbagnehdbiaa
