/- Layer 7: a ring of ints: its room, its length, a new one, what is pushed. -/
import Derived.Test.YtjbapfdgkaiehaaTurn
namespace Go.Proofs.Ytjbapfdgkaiehaa
open Go.ChangeShapes Go.WideShapes Go.ChangeAt Go.RowKit

theorem ringI_new_no (room : Int) (h : room < 1 ∨ 4096 < room) (w : World) : Calls Try.prog 31 #[.int .i64 room] w fun e w' => e = .returned (.pointer none) ∧ w = w' := by
  by_cases h1 : room < 1
  · clear h
    go_enter Try.func31, Try.ntmps31
    go_wp2
    go_ret
    exact ⟨rfl, rfl⟩
  · have h2 : 4096 < room := by omega
    clear h
    go_enter Try.func31, Try.ntmps31
    go_wp2
    go_ret
    exact ⟨rfl, rfl⟩
theorem ringI_new (room : Nat) (h1 : 1 ≤ room) (h2 : room ≤ 4096) (w : World) : Calls Try.prog 31 #[.int .i64 room] w fun e w' => e = .returned (.pointer (some ⟨w.heap.size, 0, none⟩)) ∧ w' = w.alloc (.cells #[.int .i64 room, .int .i64 0, .slice none 0 0] 102) := by
  go_enter Try.func31, Try.ntmps31
  go_wp2
  go_ret
  exact ⟨rfl, rfl⟩
theorem ringI_room_nil (w : World) : Calls Try.prog 36 #[.pointer none] w fun e w' => e = .returned (.int .i64 0) ∧ w = w' := by
  go_enter Try.func36, Try.ntmps36
  go_wp2
  go_ret
  exact ⟨rfl, rfl⟩
theorem ringI_room {w : World} {B r : Nat} {v : Value} {room first n : Nat} {xs : List Value} (h : RingAt 102 1 w B r v room first n xs) :
    Calls Try.prog 36 #[.pointer (some ⟨r, 0, none⟩)] w fun e w' => e = .returned (.int .i64 room) ∧ w = w' := by
  have c0 := h.cell0
  clear h
  go_enter Try.func36, Try.ntmps36
  go_wp2
  go_ret
  exact ⟨rfl, rfl⟩
theorem ringI_len_nil (w : World) : Calls Try.prog 37 #[.pointer none] w fun e w' => e = .returned (.int .i64 0) ∧ w = w' := by
  go_enter Try.func37, Try.ntmps37
  go_wp2
  go_ret
  exact ⟨rfl, rfl⟩
theorem ringI_len {w : World} {B r : Nat} {v : Value} {room first n : Nat} {xs : List Value} (h : RingAt 102 1 w B r v room first n xs) :
    Calls Try.prog 37 #[.pointer (some ⟨r, 0, none⟩)] w fun e w' => e = .returned (.int .i64 n) ∧ w = w' := by
  have c2 := h.cell2
  obtain ⟨p, cap, rfl, _⟩ := h.owns.sl
  clear h
  go_enter Try.func37, Try.ntmps37
  go_wp2
  go_ret
  exact ⟨rfl, rfl⟩
theorem ringI_push_nil (x : Int) (w : World) : Calls Try.prog 32 #[.pointer none, .int .i64 x] w fun e w' => e = .returned (.tuple #[.int .i64 0, .bool false]) ∧ w = w' := by
  have h1 := Lib.hid (ringI_room_nil)
  go_enter Try.func32, Try.ntmps32
  go_wp2_with ((with_reducible refine (h1.out _).mono ?_); rintro e w1 ⟨rfl, rfl⟩)
  go_ret2
  exact ⟨rfl, rfl⟩

theorem intInfo : (Try.prog.info? 3).map (fun i => (i.zero, i.size, i.bytes)) = some (some (.int .i64 0), 1, 8) := by kernel_rfl

set_option maxHeartbeats 1000000 in
set_option maxRecDepth 100000 in
theorem ringI_push_grows {w : World} {B r : Nat} {v : Value} {room n : Nat} {xs : List Value} (h : RingAt 102 1 w B r v room 0 n xs) (hr : n < room) (hr2 : room ≤ 4096) (hB : B ≤ w.heap.size) (x : Int) :
    Calls Try.prog 32 #[.pointer (some ⟨r, 0, none⟩), .int .i64 x] w fun e w' => e = .returned (.tuple #[.int .i64 0, .bool false]) ∧
      ∃ v', RingAt 102 1 w' B r v' room 0 (n + 1) (xs ++ [.int .i64 x]) ∧ Turned (fun k => k = r ∨ v.ownBlock = some k) w w' ∧ (∀ k, v'.ownBlock = some k → v.ownBlock = some k ∨ w.heap.size ≤ k) := by
  have h1 := Lib.hid (ringI_room h)
  have d0 : ((room : Int) == 0) = false := beq_eq_false_iff_ne.2 (by omega)
  have c0 := h.cell0
  have c2 := h.cell2
  obtain ⟨p, cap, ev, _⟩ := h.owns.sl
  have H := Lib.hid h
  rw [ev] at c2 H ⊢
  clear h ev
  go_enter Try.func32, Try.ntmps32
  go_wp2_with ((with_reducible refine h1.out.mono ?_); rintro e w1 ⟨rfl, rfl⟩)
  go_quiet (fail)
  have hs : (w.drewN nq).heap.size = w.heap.size := rfl
  have HO : Hid (Owns (w.drewN nq) B 1 (.slice p n cap) n xs) := H.out.owns.same (Nat.le_refl _) (fun _ _ => rfl)
  have HR : Hid (RingAt 102 1 (w.drewN nq) B r (.slice p n cap) room 0 n xs) := H.out.same (Nat.le_refl _) rfl (fun _ _ => rfl)
  go_wp2_with (at_builtin; refine wpList_append_new2 rfl _ _ 48 rfl _ _ 3 rfl B 3 (.int .i64 0) 1 8 Try.underlying48 intInfo rfl (by decide) _ _ _ rfl HR.out.owns rfl rfl (by simp [Value.oneCell']) (by unfold maxLen; omega) (by omega) hB ?_; intro u1 x1 ha1 hg1 hc1 hw1; obtain ⟨p1, cap1, rfl, _⟩ := ha1.sl; have k1 := (hg1.block r HR.out.lt (fun e => HR.out.apart e.symm)).trans HR.out.row; have c3 : x1.cell? ⟨r, 2, none⟩ = some (.slice p n cap) := (by rw [cell_of_row _ _ _ _ _ _ k1]; rfl); have g3 := frozen_of_row x1 r 2 _ _ k1)
  go_ret2
  have hap : (Value.slice p1 (n + 1) cap1).ownBlock ≠ some r := by
    rcases hw1 with hw1 | hw1
    · rw [hw1]; exact HR.out.apart
    · intro e; have := hw1 r e; have := HR.out.lt; omega
  refine ⟨rfl, _, ⟨HR.out.low, ?_, ha1.setOther _ hap, hap, fun h => by omega⟩, ?_, ?_⟩
  · rw [heap_setCell_same _ _ _ _ _ _ k1]; rfl
  · exact ((Turned.refl.drewN nq).grown hg1 (fun k hk _ => .inr hk)).setCell _ (fun _ => .inl rfl)
  · intro k hk
    rcases hw1 with hw1 | hw1
    · exact .inl (hw1 ▸ hk)
    · exact .inr (hw1 k hk)

set_option maxHeartbeats 2000000 in
set_option maxRecDepth 100000 in
theorem ringI_push_full {w : World} {B r : Nat} {v : Value} {room first : Nat} {xs : List Value} (h : RingAt 102 1 w B r v room first room xs) (hr1 : 1 ≤ room) (hr2 : room ≤ 4096) (hf : first < room) (y : Int) (hy : xs[first]? = some (.int .i64 y)) (x : Int) :
    Calls Try.prog 32 #[.pointer (some ⟨r, 0, none⟩), .int .i64 x] w fun e w' => e = .returned (.tuple #[.int .i64 y, .bool true]) ∧
      RingAt 102 1 w' B r v room ((first + 1) % room) room (xs.set first (.int .i64 x)) ∧ Turned (fun k => k = r ∨ v.ownBlock = some k) w w' := by
  obtain ⟨f1, ef1⟩ : ∃ f1, f1 = (first + 1) % room := ⟨_, rfl⟩
  have hm1 : Hid (((first : Int) + 1) % room = f1) := by show _ = _; rw [ef1]; simp
  rw [← ef1]
  clear ef1
  have h1 := Lib.hid (ringI_room h)
  have d0 : ((room : Int) == 0) = false := beq_eq_false_iff_ne.2 (by omega)
  have c0 := h.cell0
  have c2 := h.cell2
  obtain ⟨g, cap, ev, hgr, hBg, hgw, hrc⟩ := h.slice (by omega)
  have H := Lib.hid h
  rw [ev] at c2 H ⊢
  have HY := Lib.hid hy
  clear h ev hy
  have d1 : decide ((room : Int) < room) = false := decide_eq_false (by omega)
  go_enter Try.func32, Try.ntmps32
  go_wp2_with ((with_reducible refine h1.out.mono ?_); rintro e w1 ⟨rfl, rfl⟩)
  go_quiet (fail)
  have HR : Hid (RingAt 102 1 (w.drewN nq) B r (.slice (some ⟨g, 0, none⟩) room cap) room first room xs) := H.out.same (Nat.le_refl _) rfl (fun _ _ => rfl)
  clear c0 c2
  have c1 := HR.out.cell1
  have c2 := HR.out.cell2
  have c3 : (w.drewN nq).cell? ⟨g, first, none⟩ = some (.int .i64 y) := by
    obtain ⟨_, hO⟩ := HR.out.owns
    rcases hO with ⟨_, h0⟩ | ⟨g', cap', h0, _, _, _, h5, _⟩
    · omega
    · simp at h0; rw [h0.1]; exact h5 _ _ HY.out
  obtain ⟨W, hW⟩ : ∃ W, W = w.drewN nq := ⟨_, rfl⟩
  rw [← hW] at HR c1 c2 c3 ⊢
  have HT : Hid (Turned (fun k => k = r ∨ (Value.slice (some ⟨g, 0, none⟩) room cap).ownBlock = some k) w W) := by rw [hW]; exact Turned.refl.drewN nq
  clear hW
  go_wp2_with fail
  go_quiet (fail)
  have HR2 : Hid (RingAt 102 1 (W.drewN nq) B r (.slice (some ⟨g, 0, none⟩) room cap) room first room xs) := HR.out.same (Nat.le_refl _) rfl (fun _ _ => rfl)
  have HT2 := Lib.hid (HT.out.drewN nq)
  clear c1 c2 c3
  obtain ⟨W2, hW2⟩ : ∃ X, X = W.drewN nq := ⟨_, rfl⟩
  rw [← hW2] at HR2 HT2 ⊢
  clear hW2 HR HT
  go_wp2_with fail
  have hst := stab_and (stab_ring (TR := 102) (sz := 1) (B := B) (r := r) (v := .slice (some ⟨g, 0, none⟩) room cap) (room := room) (first := first) (n := room) (xs := xs)) (stab_turned (S := fun k => k = r ∨ (Value.slice (some ⟨g, 0, none⟩) room cap).ownBlock = some k) (w := w))
  refine wp_region_E mixed [10] hst ⟨HR2.out.same (Nat.le_refl _) rfl (fun _ _ => rfl), HT2.out.drewN 1⟩ ?_
  refine wpAnyE_take 0 rfl (by kernel_rfl) (by kernel_rfl) (by kernel_rfl) (fun _ _ _ h => h) hst (EffB.pure rfl (fun _ => rfl)) (.inr (EffB.pure rfl (fun _ => rfl))) ?_
  simp only [act_norm]
  refine wpAnyE_take 1 (v := .pointer (some ⟨r, 0, none⟩)) rfl (by kernel_rfl) (by kernel_rfl) (by kernel_rfl) (fun _ _ _ h => h) hst (EffB.run rfl rfl (fun wd hS => ?_)) (.inr (EffB.run rfl rfl (fun wd hS => ?_))) ?_
  · (go_wp2; exact ⟨rfl, Below.refl _ _⟩)
  · (go_wp2; exact ⟨rfl, Below.refl _ _⟩)
  simp only [act_norm]
  refine wpAnyE_take 2 (v := .pointer (some ⟨r, 2, none⟩)) rfl (by kernel_rfl) (by kernel_rfl) (by kernel_rfl) (fun _ _ _ h => h) hst (EffB.run rfl rfl (fun wd hS => ?_)) (.inr (EffB.run rfl rfl (fun wd hS => ?_))) ?_
  · (go_wp2; exact ⟨rfl, Below.refl _ _⟩)
  · (go_wp2; exact ⟨rfl, Below.refl _ _⟩)
  simp only [act_norm]
  refine wpAnyE_take 3 (v := .slice (some ⟨g, 0, none⟩) room cap) rfl (by kernel_rfl) (by kernel_rfl) (by kernel_rfl) (fun _ _ _ h => h) hst (EffB.run rfl rfl (fun wd hS => ?_)) (.inl (by kernel_rfl)) ?_
  · (have c2 : wd.cell? ⟨r, 2, none⟩ = some (.slice (some ⟨g, 0, none⟩) room cap) := by rw [cell_of_row _ _ _ _ _ _ (hS.1.row)]; rfl); go_wp2; exact ⟨rfl, Below.refl _ _⟩
  simp only [act_norm]
  refine wpAnyE_take 4 rfl (by kernel_rfl) (by kernel_rfl) (by kernel_rfl) (fun _ _ _ h => h) hst (EffB.pure rfl (fun _ => rfl)) (.inr (EffB.pure rfl (fun _ => rfl))) ?_
  simp only [act_norm]
  refine wpAnyE_take 5 (v := .pointer (some ⟨r, 0, none⟩)) rfl (by kernel_rfl) (by kernel_rfl) (by kernel_rfl) (fun _ _ _ h => h) hst (EffB.run rfl rfl (fun wd hS => ?_)) (.inr (EffB.run rfl rfl (fun wd hS => ?_))) ?_
  · (go_wp2; exact ⟨rfl, Below.refl _ _⟩)
  · (go_wp2; exact ⟨rfl, Below.refl _ _⟩)
  simp only [act_norm]
  refine wpAnyE_take 6 (v := .pointer (some ⟨r, 1, none⟩)) rfl (by kernel_rfl) (by kernel_rfl) (by kernel_rfl) (fun _ _ _ h => h) hst (EffB.run rfl rfl (fun wd hS => ?_)) (.inr (EffB.run rfl rfl (fun wd hS => ?_))) ?_
  · (go_wp2; exact ⟨rfl, Below.refl _ _⟩)
  · (go_wp2; exact ⟨rfl, Below.refl _ _⟩)
  simp only [act_norm]
  refine wpAnyE_take 7 (v := .int .i64 first) rfl (by kernel_rfl) (by kernel_rfl) (by kernel_rfl) (fun _ _ _ h => h) hst (EffB.run rfl rfl (fun wd hS => ?_)) (.inl (by kernel_rfl)) ?_
  · (have c2 : wd.cell? ⟨r, 1, none⟩ = some (.int .i64 first) := by rw [cell_of_row _ _ _ _ _ _ (hS.1.row)]; rfl); go_wp2; exact ⟨rfl, Below.refl _ _⟩
  simp only [act_norm]
  refine wpAnyE_take 8 rfl (by kernel_rfl) (by kernel_rfl) (by kernel_rfl) (fun _ _ _ h => h) hst (EffB.pure rfl (fun _ => rfl)) (.inr (EffB.pure rfl (fun _ => rfl))) ?_
  simp only [act_norm]
  refine wpAnyE_take 9 (v := .pointer (some ⟨g, first, none⟩)) rfl (by kernel_rfl) (by kernel_rfl) (by kernel_rfl) (fun _ _ _ h => h) hst (EffB.run rfl rfl (fun wd hS => ?_)) (.inr (EffB.run rfl rfl (fun wd hS => ?_))) ?_
  · (go_wp2; exact ⟨rfl, Below.refl _ _⟩)
  · (go_wp2; exact ⟨rfl, Below.refl _ _⟩)
  simp only [act_norm]
  refine wpAnyE_one 10 rfl (by kernel_rfl) rfl (fun wd hS => ?_)
  have c3 : wd.cell? ⟨g, first, none⟩ = some (.int .i64 y) := by
    obtain ⟨_, hO⟩ := hS.1.owns
    rcases hO with ⟨_, h0⟩ | ⟨g', cap', h0, _, _, _, h5, _⟩
    · omega
    · simp at h0; rw [h0.1]; exact h5 _ _ HY.out
  have g3 : wd.frozen? ⟨g, first, none⟩ = false := by
    obtain ⟨_, hO⟩ := hS.1.owns
    rcases hO with ⟨_, h0⟩ | ⟨g', cap', h0, _, _, _, _, h6⟩
    · omega
    · simp at h0; rw [h0.1]; exact (h6 _ (by omega)).2
  have hr3 : RingAt 102 1 (wd.setCell ⟨g, first, none⟩ (.int .i64 x)) B r (.slice (some ⟨g, 0, none⟩) room cap) room first room (xs.set first (.int .i64 x)) :=
    ⟨hS.1.low, (Below.heap_setCell _ _ _ _ (fun e => hgr e.symm)).trans hS.1.row, hS.1.owns.put rfl first _ hf, hS.1.apart, fun h => by omega⟩
  have ht3 := hS.2.setCell (b := g) (j := first) (.int .i64 x) (fun _ => .inr rfl)
  have X3 := Lib.hid hr3
  have Y3 := Lib.hid ht3
  have hst4 := stab_and (stab_ring (TR := 102) (sz := 1) (B := B) (r := r) (v := .slice (some ⟨g, 0, none⟩) room cap) (room := room) (first := first) (n := room) (xs := xs.set first (.int .i64 x))) (stab_turned (S := fun k => k = r ∨ (Value.slice (some ⟨g, 0, none⟩) room cap).ownBlock = some k) (w := w))
  clear hS hst hr3 ht3
  go_wp2
  refine ⟨_, ⟨X3.out, Y3.out⟩, hst4, ?_⟩
  have hst := hst4
  clear X3 Y3 c3 g3 HR2 HT2
  try simp only [act_norm]
  refine wpAnyE_done (by kernel_rfl) (fun wd2 hS => ?_) _
  have HS := Lib.hid hS
  clear hS
  go_wp2_with fail
  refine wp_region_E mixed [13] hst ⟨HS.out.1.same (Nat.le_refl _) rfl (fun _ _ => rfl), HS.out.2.drewN 1⟩ ?_
  refine wpAnyE_take 0 rfl (by kernel_rfl) (by kernel_rfl) (by kernel_rfl) (fun _ _ _ h => h) hst (EffB.pure rfl (fun _ => rfl)) (.inr (EffB.pure rfl (fun _ => rfl))) ?_
  simp only [act_norm]
  refine wpAnyE_take 1 rfl (by kernel_rfl) (by kernel_rfl) (by kernel_rfl) (fun _ _ _ h => h) hst (EffB.pure rfl (fun _ => rfl)) (.inr (EffB.pure rfl (fun _ => rfl))) ?_
  simp only [act_norm]
  refine wpAnyE_take 2 (v := .pointer (some ⟨r, 0, none⟩)) rfl (by kernel_rfl) (by kernel_rfl) (by kernel_rfl) (fun _ _ _ h => h) hst (EffB.run rfl rfl (fun wd hS => ?_)) (.inr (EffB.run rfl rfl (fun wd hS => ?_))) ?_
  · (go_wp2; exact ⟨rfl, Below.refl _ _⟩)
  · (go_wp2; exact ⟨rfl, Below.refl _ _⟩)
  simp only [act_norm]
  refine wpAnyE_take 3 (v := .pointer (some ⟨r, 1, none⟩)) rfl (by kernel_rfl) (by kernel_rfl) (by kernel_rfl) (fun _ _ _ h => h) hst (EffB.run rfl rfl (fun wd hS => ?_)) (.inr (EffB.run rfl rfl (fun wd hS => ?_))) ?_
  · (go_wp2; exact ⟨rfl, Below.refl _ _⟩)
  · (go_wp2; exact ⟨rfl, Below.refl _ _⟩)
  simp only [act_norm]
  refine wpAnyE_take 4 (v := .int .i64 first) rfl (by kernel_rfl) (by kernel_rfl) (by kernel_rfl) (fun _ _ _ h => h) hst (EffB.run rfl rfl (fun wd hS => ?_)) (.inl (by kernel_rfl)) ?_
  · (have c2 : wd.cell? ⟨r, 1, none⟩ = some (.int .i64 first) := by rw [cell_of_row _ _ _ _ _ _ (hS.1.row)]; rfl); go_wp2; exact ⟨rfl, Below.refl _ _⟩
  simp only [act_norm]
  refine wpAnyE_take 5 (v := .int .i64 ((first : Int) + 1)) rfl (by kernel_rfl) (by kernel_rfl) (by kernel_rfl) (fun _ _ _ h => h) hst (EffB.run rfl rfl (fun wd hS => ?_)) (.inr (EffB.run rfl rfl (fun wd hS => ?_))) ?_
  · (go_wp2; exact ⟨rfl, Below.refl _ _⟩)
  · (go_wp2; exact ⟨rfl, Below.refl _ _⟩)
  simp only [act_norm]
  refine wpAnyE_take 6 rfl (by kernel_rfl) (by kernel_rfl) (by kernel_rfl) (fun _ _ _ h => h) hst (EffB.pure rfl (fun _ => rfl)) (.inr (EffB.pure rfl (fun _ => rfl))) ?_
  simp only [act_norm]
  refine wpAnyE_take 7 (v := .pointer (some ⟨r, 0, none⟩)) rfl (by kernel_rfl) (by kernel_rfl) (by kernel_rfl) (fun _ _ _ h => h) hst (EffB.run rfl rfl (fun wd hS => ?_)) (.inr (EffB.run rfl rfl (fun wd hS => ?_))) ?_
  · (go_wp2; exact ⟨rfl, Below.refl _ _⟩)
  · (go_wp2; exact ⟨rfl, Below.refl _ _⟩)
  simp only [act_norm]
  refine wpAnyE_take 8 (v := .pointer (some ⟨r, 0, none⟩)) rfl (by kernel_rfl) (by kernel_rfl) (by kernel_rfl) (fun _ _ _ h => h) hst (EffB.run rfl rfl (fun wd hS => ?_)) (.inr (EffB.run rfl rfl (fun wd hS => ?_))) ?_
  · (go_wp2; exact ⟨rfl, Below.refl _ _⟩)
  · (go_wp2; exact ⟨rfl, Below.refl _ _⟩)
  simp only [act_norm]
  refine wpAnyE_take 9 (v := .int .i64 room) rfl (by kernel_rfl) (by kernel_rfl) (by kernel_rfl) (fun _ _ _ h => h) hst (EffB.run rfl rfl (fun wd hS => ?_)) (.inl (by kernel_rfl)) ?_
  · (have c2 : wd.cell? ⟨r, 0, none⟩ = some (.int .i64 room) := by rw [cell_of_row _ _ _ _ _ _ (hS.1.row)]; rfl); go_wp2; exact ⟨rfl, Below.refl _ _⟩
  simp only [act_norm]
  refine wpAnyE_take 10 (v := .int .i64 (((first : Int) + 1) % room)) rfl (by kernel_rfl) (by kernel_rfl) (by kernel_rfl) (fun _ _ _ h => h) hst (EffB.run rfl rfl (fun wd hS => ?_)) (.inr (EffB.run rfl rfl (fun wd hS => ?_))) ?_
  · (go_wp2; exact ⟨rfl, Below.refl _ _⟩)
  · (go_wp2; exact ⟨rfl, Below.refl _ _⟩)
  simp only [act_norm]
  rw [hm1.out]
  refine wpAnyE_take 11 (v := .pointer (some ⟨r, 0, none⟩)) rfl (by kernel_rfl) (by kernel_rfl) (by kernel_rfl) (fun _ _ _ h => h) hst (EffB.run rfl rfl (fun wd hS => ?_)) (.inr (EffB.run rfl rfl (fun wd hS => ?_))) ?_
  · (go_wp2; exact ⟨rfl, Below.refl _ _⟩)
  · (go_wp2; exact ⟨rfl, Below.refl _ _⟩)
  simp only [act_norm]
  refine wpAnyE_take 12 (v := .pointer (some ⟨r, 1, none⟩)) rfl (by kernel_rfl) (by kernel_rfl) (by kernel_rfl) (fun _ _ _ h => h) hst (EffB.run rfl rfl (fun wd hS => ?_)) (.inr (EffB.run rfl rfl (fun wd hS => ?_))) ?_
  · (go_wp2; exact ⟨rfl, Below.refl _ _⟩)
  · (go_wp2; exact ⟨rfl, Below.refl _ _⟩)
  simp only [act_norm]
  refine wpAnyE_one 13 rfl (by kernel_rfl) rfl (fun wd3 hS => ?_)
  have c3 := hS.1.cell1
  have g3 := hS.1.free 1
  have hr3 : RingAt 102 1 (wd3.setCell ⟨r, 1, none⟩ (.int .i64 f1)) B r (.slice (some ⟨g, 0, none⟩) room cap) room f1 room (xs.set first (.int .i64 x)) :=
    ⟨hS.1.low, by rw [heap_setCell_same _ _ _ _ _ _ hS.1.row]; rfl, hS.1.owns.setOther _ hS.1.apart, hS.1.apart, fun h => by omega⟩
  have ht3 := hS.2.setCell (b := r) (j := 1) (.int .i64 f1) (fun _ => .inl rfl)
  have X3 := Lib.hid hr3
  have Y3 := Lib.hid ht3
  clear hS hst hr3 ht3
  go_wp2
  refine ⟨_, ⟨X3.out, Y3.out⟩, stab_and stab_ring stab_turned, ?_⟩
  clear X3 Y3 c3 g3
  try simp only [act_norm]
  refine wpAnyE_done (by kernel_rfl) (fun wd4 hS => ?_) _
  go_wp2
  go_ret2
  exact ⟨rfl, hS.1, hS.2⟩
end Go.Proofs.Ytjbapfdgkaiehaa
