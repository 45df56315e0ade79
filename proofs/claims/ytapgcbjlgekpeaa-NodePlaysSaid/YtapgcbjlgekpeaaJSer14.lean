/- A series: trimmed; cloned. -/
import Derived.Test.YtapgcbjlgekpeaaJSer12
import Derived.Test.YtapgcbjlgekpeaaJSer13
namespace Go.Proofs.Ytapgcbjlgekpeaa
open Go.ChangeShapes Go.WideShapes Go.ChangeAt Go.RowKit

theorem delete_nil (w : World) : Calls Try.prog 171 #[.slice none 0 0, .int .i64 0, .int .i64 0] w fun e w' => e = .returned (.slice none 0 0) ∧ w = w' := by
  go_enter Try.func171, Try.ntmps171
  go_wp2
  go_ret
  exact ⟨rfl, rfl⟩
theorem delete_none (g n c : Nat) (hn : n ≤ c) (w : World) : Calls Try.prog 171 #[.slice (some ⟨g, 0, none⟩) n c, .int .i64 0, .int .i64 0] w fun e w' => e = .returned (.slice (some ⟨g, 0, none⟩) n c) ∧ w = w' := by
  have h0 : (0 : Int) ≤ n := by omega
  go_enter Try.func171, Try.ntmps171
  go_wp2
  go_ret
  exact ⟨rfl, rfl⟩
theorem delete_samps {w : World} {B : Nat} {v : Value} {L : List Samp} (h : Owns w B 2 v L.length (sampVals L)) (hl : L.length ≤ 100000) (j : Nat) (hj : j ≤ L.length) :
    Calls Try.prog 171 #[v, .int .i64 0, .int .i64 j] w fun e w' => ∃ v', e = .returned v' ∧ Owns w' B 2 v' (L.drop j).length (sampVals (L.drop j)) ∧ Turned (fun k => v.ownBlock = some k) w w' ∧ v'.ownBlock = v.ownBlock := by
  rcases h.2 with ⟨rfl, h0⟩ | ⟨g, cap, rfl, h1, h2, h3, h4, h5⟩
  · have : j = 0 := by omega
    subst this
    refine (delete_nil w).mono ?_
    rintro e w' ⟨rfl, rfl⟩
    exact ⟨_, rfl, h, Turned.refl, rfl⟩
  · by_cases hj0 : j = 0
    · subst hj0
      refine (delete_none g L.length cap h3 w).mono ?_
      rintro e w' ⟨rfl, rfl⟩
      exact ⟨_, rfl, h, Turned.refl, rfl⟩
    · have hT : ∀ {w w' : World}, Turned (fun k => k = g) w w' → Turned (fun k => (Value.slice (some ⟨g, 0, none⟩) L.length cap).ownBlock = some k) w w' := fun t => t.mono (fun k _ e => by rw [show k = g from e]; rfl)
      by_cases hc : cap = j
      · have hn : L.length = j := by omega
        have hd : L.drop j = [] := List.drop_of_length_le (by omega)
        subst hc
        rw [hn] at h
        have := delete_all B g cap (sampVals L) (by omega) (by omega) w h (sampVals_one L)
        rw [(sampVals_cut L cap).2, hd] at this
        rw [hn, hd]
        refine this.mono ?_
        rintro e w' ⟨rfl, ho, ht⟩
        exact ⟨_, rfl, ho, ht.mono (fun k _ e => by rw [show k = g from e]; rfl), rfl⟩
      · obtain ⟨d, hd⟩ : ∃ d, L.length = d + j := ⟨L.length - j, by omega⟩
        have hdl : (L.drop j).length = d := by rw [List.length_drop]; omega
        rw [hd] at h
        have := delete_head B g cap d j (sampVals L) (by omega) (by omega) hc w h (sampVals_one L)
        rw [(sampVals_cut L j).2] at this
        rw [hd, hdl]
        refine this.mono ?_
        rintro e w' ⟨rfl, ho, ht⟩
        exact ⟨_, rfl, ho, ht.mono (fun k _ e => by rw [show k = g from e]; rfl), rfl⟩

/-- The state behind Trim. -/
def TrimOf (w : World) (B s : Nat) (v : Value) (room : Nat) (L : List Samp) (c : Nat) (e : Ending) (w' : World) : Prop :=
  e = .returned (.int .i64 c) ∧ ∃ v', SerAt w' B s v' room L ∧ Turned (fun k => k = s ∨ v.ownBlock = some k) w w' ∧ (∀ k, v'.ownBlock = some k → v.ownBlock = some k ∨ w.heap.size ≤ k)
set_option maxHeartbeats 1000000 in
set_option maxRecDepth 100000 in
theorem ser_trim {w : World} {B s : Nat} {v : Value} {room : Nat} {L : List Samp} (h : SerAt w B s v room L) (cut : Int) :
    Calls Try.prog 138 #[.pointer (some ⟨s, 0, none⟩), .int .i64 cut] w (TrimOf w B s v room (L.drop (Ser.place L cut)) (Ser.place L cut)) := by
  have hp := Ser.place_le L cut
  have P1 := Lib.hid (ser_place h cut)
  obtain ⟨j, ej⟩ : ∃ j, j = Ser.place L cut := ⟨_, rfl⟩
  rw [← ej] at hp P1 ⊢
  have h256 : L.length ≤ 256 := Nat.le_trans h.len h.room2
  have hj256 : j ≤ 256 := by omega
  have HS := Lib.hid h
  clear h ej
  go_enter Try.func138, Try.ntmps138
  go_wp2_with fail
  (with_reducible refine P1.out.mono ?_)
  rintro e w1 ⟨rfl, hb1⟩
  have S1 := Lib.hid (HS.out.below hb1)
  have T1 := Lib.hid (Turned.of_below (S := fun k => k = s ∨ v.ownBlock = some k) hb1)
  have P2 := Lib.hid (delete_samps S1.out.owns (by omega) j hp)
  have c1 := S1.out.cell1
  have f1 := S1.out.free 1
  clear hb1 P1
  go_wp2_with fail
  (with_reducible refine P2.out.mono ?_)
  rintro e w2 ⟨v2, rfl, ho2, ht2, hv2⟩
  obtain ⟨p2, d2, rfl, _⟩ := ho2.sl
  have hsv : ¬ v.ownBlock = some s := S1.out.apart
  have k2 := (ht2.block s S1.out.lt hsv).trans S1.out.row
  have c2 : w2.cell? ⟨s, 1, none⟩ = some v := by rw [cell_of_row _ _ _ _ _ _ k2]; rfl
  have f2 : w2.frozen? ⟨s, 1, none⟩ = false := frozen_of_row _ _ _ _ _ k2
  have K2 := Lib.hid k2
  have O2 := Lib.hid ho2
  have T2 := Lib.hid (T1.out.trans ht2 (fun k _ e => .inr e))
  have V2 := Lib.hid hv2
  clear k2 ho2 ht2 hv2 P2 c1 f1 T1 hsv
  go_wp2
  go_ret
  have h1 := S1.out
  have hl : (L.drop j).length ≤ L.length := by rw [List.length_drop]; omega
  have hvs : (Value.slice p2 (L.drop j).length d2).ownBlock ≠ some s := by rw [V2.out]; exact h1.apart
  exact ⟨rfl, _, ⟨h1.low, by rw [heap_setCell_same _ _ _ _ _ _ K2.out, List.length_drop]; rfl, by have := O2.out.setOther (.slice p2 (L.drop j).length d2) (b := s) (j := 1) hvs; rw [List.length_drop] at this ⊢; exact this, hvs, h1.room1, h1.room2, Nat.le_trans hl h1.len, Ser.drop_sorted h1.sorted j⟩, T2.out.setCell _ (fun _ => .inl rfl), fun k hk => .inl (V2.out ▸ hk)⟩

theorem clone_samps {w : World} {B : Nat} {v : Value} {L : List Samp} (h : Owns w B 2 v L.length (sampVals L)) (hl : L.length ≤ 100000) :
    Calls Try.prog 172 #[v] w fun e w' => ∃ u, e = .returned u ∧ Owns w' w.heap.size 2 u L.length (sampVals L) ∧ Below w.heap.size w w' := by
  rcases h.2 with ⟨rfl, h0⟩ | ⟨g, cap, rfl, _⟩
  · refine (cloneS_nil w).mono ?_
    rintro e w' ⟨rfl, rfl⟩
    have : L = [] := List.length_eq_zero_iff.1 h0
    subst this
    exact ⟨_, rfl, owns_nil _ _ _, Below.refl _ _⟩
  · obtain ⟨p, cp, e, _, hs⟩ := samps_of_owns h
    simp only [Value.slice.injEq] at e
    obtain ⟨rfl, _, _⟩ := e
    exact cloneS_some ⟨g, 0, none⟩ L.length cap L rfl hl w hs
set_option maxHeartbeats 1000000 in
set_option maxRecDepth 100000 in
theorem ser_clone {w : World} {B s : Nat} {v : Value} {room : Nat} {L : List Samp} (h : SerAt w B s v room L) :
    Calls Try.prog 167 #[.pointer (some ⟨s, 0, none⟩)] w fun e w' => ∃ s2 v2, e = .returned (.pointer (some ⟨s2, 0, none⟩)) ∧ SerAt w' w.heap.size s2 v2 room L ∧ Below w.heap.size w w' := by
  have h256 : L.length ≤ 256 := Nat.le_trans h.len h.room2
  have HS := Lib.hid h
  have hst := stab_and (stab_ser (B := B) (s := s) (v := v) (room := room) (L := L)) (stab_below (B := w.heap.size) (w0 := w) (Nat.le_refl _))
  clear h
  go_enter Try.func167, Try.ntmps167
  go_wp2_with fail
  refine wp_region_E mixed [] hst ⟨HS.out.same (Nat.le_refl _) rfl (fun _ _ => rfl), below_drew (Below.refl _ _)⟩ ?_
  refine wpAnyE_take 0 rfl (by kernel_rfl) (by kernel_rfl) (by kernel_rfl) (fun _ _ _ h => h) hst (EffB.pure rfl (fun _ => rfl)) (.inr (EffB.pure rfl (fun _ => rfl))) ?_
  simp only [act_norm]
  refine wpAnyE_take 1 (v := .pointer (some ⟨s, 0, none⟩)) rfl (by kernel_rfl) (by kernel_rfl) (by kernel_rfl) (fun _ _ _ h => h) hst (EffB.run rfl rfl (fun wd hS => ?_)) (.inr (EffB.run rfl rfl (fun wd hS => ?_))) ?_
  · (go_wp2; exact ⟨rfl, Below.refl _ _⟩)
  · (go_wp2; exact ⟨rfl, Below.refl _ _⟩)
  simp only [act_norm]
  refine wpAnyE_take 2 (v := .pointer (some ⟨s, 0, none⟩)) rfl (by kernel_rfl) (by kernel_rfl) (by kernel_rfl) (fun _ _ _ h => h) hst (EffB.run rfl rfl (fun wd hS => ?_)) (.inr (EffB.run rfl rfl (fun wd hS => ?_))) ?_
  · (go_wp2; exact ⟨rfl, Below.refl _ _⟩)
  · (go_wp2; exact ⟨rfl, Below.refl _ _⟩)
  simp only [act_norm]
  refine wpAnyE_take 3 (v := .int .i64 room) rfl (by kernel_rfl) (by kernel_rfl) (by kernel_rfl) (fun _ _ _ h => h) hst (EffB.run rfl rfl (fun wd hS => ?_)) (.inl (by kernel_rfl)) ?_
  · (have c2 : wd.cell? ⟨s, 0, none⟩ = some (.int .i64 room) := by rw [cell_of_row _ _ _ _ _ _ (hS.1.row)]; rfl); go_wp2; exact ⟨rfl, Below.refl _ _⟩
  simp only [act_norm]
  refine wpAnyE_take 4 rfl (by kernel_rfl) (by kernel_rfl) (by kernel_rfl) (fun _ _ _ h => h) hst (EffB.pure rfl (fun _ => rfl)) (.inr (EffB.pure rfl (fun _ => rfl))) ?_
  simp only [act_norm]
  refine wpAnyE_take 5 (v := .pointer (some ⟨s, 0, none⟩)) rfl (by kernel_rfl) (by kernel_rfl) (by kernel_rfl) (fun _ _ _ h => h) hst (EffB.run rfl rfl (fun wd hS => ?_)) (.inr (EffB.run rfl rfl (fun wd hS => ?_))) ?_
  · (go_wp2; exact ⟨rfl, Below.refl _ _⟩)
  · (go_wp2; exact ⟨rfl, Below.refl _ _⟩)
  simp only [act_norm]
  refine wpAnyE_take 6 (v := .pointer (some ⟨s, 1, none⟩)) rfl (by kernel_rfl) (by kernel_rfl) (by kernel_rfl) (fun _ _ _ h => h) hst (EffB.run rfl rfl (fun wd hS => ?_)) (.inr (EffB.run rfl rfl (fun wd hS => ?_))) ?_
  · (go_wp2; exact ⟨rfl, Below.refl _ _⟩)
  · (go_wp2; exact ⟨rfl, Below.refl _ _⟩)
  simp only [act_norm]
  refine wpAnyE_take 7 (v := v) rfl (by kernel_rfl) (by kernel_rfl) (by kernel_rfl) (fun _ _ _ h => h) hst (EffB.run rfl rfl (fun wd hS => ?_)) (.inl (by kernel_rfl)) ?_
  · (have c2 : wd.cell? ⟨s, 1, none⟩ = some (v) := by rw [cell_of_row _ _ _ _ _ _ (hS.1.row)]; rfl); go_wp2; exact ⟨rfl, Below.refl _ _⟩
  simp only [act_norm]
  refine wpAnyE_one 8 rfl (by kernel_rfl) rfl (fun wd hS => ?_)
  have P := Lib.hid (clone_samps hS.1.owns (by omega))
  go_wp2_with fail
  (with_reducible refine P.out.mono ?_)
  rintro e w2 ⟨u, rfl, ho, hb⟩
  obtain ⟨pu, du, rfl, _⟩ := ho.sl
  have hstN := stab_and hst (stab_owns (B := w.heap.size) (sz := 2) (v := .slice pu L.length du) (n := L.length) (xs := sampVals L))
  have Y1 := Lib.hid (And.intro (hst _ _ hS hb) (ho.mono hS.2.size))
  clear hS ho hb P
  go_wp2
  refine ⟨_, Y1.out, hstN, (by first | exact fun _ h => h.1 | exact .inr fun _ h => h.1), ?_⟩
  clear Y1 hst
  try simp only [act_norm]
  have hst := hstN
  clear hstN
  refine wpAnyE_take 9 (v := .agg #[.int .i64 room, .slice pu L.length du]) rfl (by kernel_rfl) (by kernel_rfl) (by kernel_rfl) (fun _ _ _ h => h) hst (EffB.run rfl rfl (fun wd hS => ?_)) (.inr (EffB.run rfl rfl (fun wd hS => ?_))) ?_
  · (go_wp2; exact ⟨rfl, Below.refl _ _⟩)
  · (go_wp2; exact ⟨rfl, Below.refl _ _⟩)
  simp only [act_norm]
  refine wpAnyE_one 10 rfl (by kernel_rfl) rfl (fun wd hS => ?_)
  have hstN := stab_and hst (stab_heap wd.heap.size (.cells #[.int .i64 room, .slice pu L.length du] 201 (0, 0)))
  have Y1 := Lib.hid (And.intro (hst _ _ hS (below1 wd (.cells #[.int .i64 room, .slice pu L.length du] 201))) (heap_alloc_at wd (.cells #[.int .i64 room, .slice pu L.length du] 201) wd.heap.size rfl))
  have hul : ∀ k, (Value.slice pu L.length du).ownBlock = some k → k < wd.heap.size := fun k hk => (hS.2.lt k hk).2
  have hge : w.heap.size ≤ wd.heap.size := hS.1.2.size
  have HUL := Lib.hid (And.intro hul hge)
  clear hS hul hge
  go_wp2
  refine ⟨_, Y1.out, hstN, (by first | exact fun _ h => h.1 | exact .inr fun _ h => h.1), ?_⟩
  obtain ⟨X, hX⟩ : ∃ X, wd.heap.size = X := ⟨_, rfl⟩
  rw [hX] at hstN HUL ⊢
  clear Y1 hst hX
  try simp only [act_norm]
  have hst := hstN
  clear hstN
  refine wpAnyE_take 11 rfl (by kernel_rfl) (by kernel_rfl) (by kernel_rfl) (fun _ _ _ h => h) hst (EffB.pure rfl (fun _ => rfl)) (.inr (EffB.pure rfl (fun _ => rfl))) ?_
  simp only [act_norm]
  refine wpAnyE_done (by kernel_rfl) (fun wd hS => ?_) _
  have HF := Lib.hid hS
  clear hS hst
  go_wp2
  go_ret
  exact ⟨X, _, rfl, ⟨HUL.out.2, HF.out.2, HF.out.1.2, fun e => by have := HUL.out.1 X e; omega, HS.out.room1, HS.out.room2, HS.out.len, HS.out.sorted⟩, HF.out.1.1.2⟩
end Go.Proofs.Ytapgcbjlgekpeaa
