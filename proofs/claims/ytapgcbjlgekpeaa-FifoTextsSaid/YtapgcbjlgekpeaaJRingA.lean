/- General lemmas of several texts, one after another. -/
import Derived.Test.YtapgcbjlgekpeaaJBase
import Derived.Lib.AppendZerosOnto
import Derived.RangeFuncNested
import Derived.RangeFuncBox
import Derived.RangeFuncCalls
import Derived.RangeFuncLeaves
import Derived.Shelf.Abstract
import Derived.Shelf.RegionOpen
import Derived.OwnWalkIn
import Derived.TacticsInMore
import Derived.LoopNIn
import Derived.LoopIn
import Derived.Maps.AppendAt
import Derived.Deep.MidRow
/- Layer 7: a ring of ints: its room, its length, a new one, what is pushed. -/
namespace Go.Proofs.Ytapgcbjlgekpeaa
open Go.ChangeShapes Go.WideShapes Go.ChangeAt Go.RowKit

theorem ringI_new_no (room : Int) (h : room < 1 ∨ 4096 < room) (w : World) : Calls Try.prog 127 #[.int .i64 room] w fun e w' => e = .returned (.pointer none) ∧ w = w' := by
  by_cases h1 : room < 1
  · clear h
    go_enter Try.func127, Try.ntmps127
    go_wp2
    go_ret
    exact ⟨rfl, rfl⟩
  · have h2 : 4096 < room := by omega
    clear h
    go_enter Try.func127, Try.ntmps127
    go_wp2
    go_ret
    exact ⟨rfl, rfl⟩
theorem ringI_new (room : Nat) (h1 : 1 ≤ room) (h2 : room ≤ 4096) (w : World) : Calls Try.prog 127 #[.int .i64 room] w fun e w' => e = .returned (.pointer (some ⟨w.heap.size, 0, none⟩)) ∧ w' = w.alloc (.cells #[.int .i64 room, .int .i64 0, .slice none 0 0] 227) := by
  go_enter Try.func127, Try.ntmps127
  go_wp2
  go_ret
  exact ⟨rfl, rfl⟩
theorem ringI_room_nil (w : World) : Calls Try.prog 164 #[.pointer none] w fun e w' => e = .returned (.int .i64 0) ∧ w = w' := by
  go_enter Try.func164, Try.ntmps164
  go_wp2
  go_ret
  exact ⟨rfl, rfl⟩
theorem ringI_room {w : World} {B r : Nat} {v : Value} {room first n : Nat} {xs : List Value} (h : RingAt 227 1 w B r v room first n xs) :
    Calls Try.prog 164 #[.pointer (some ⟨r, 0, none⟩)] w fun e w' => e = .returned (.int .i64 room) ∧ w = w' := by
  have c0 := h.cell0
  clear h
  go_enter Try.func164, Try.ntmps164
  go_wp2
  go_ret
  exact ⟨rfl, rfl⟩
theorem ringI_push_nil (x : Int) (w : World) : Calls Try.prog 128 #[.pointer none, .int .i64 x] w fun e w' => e = .returned (.tuple #[.int .i64 0, .bool false]) ∧ w = w' := by
  have h1 := Lib.hid (ringI_room_nil)
  go_enter Try.func128, Try.ntmps128
  go_wp2_with ((with_reducible refine (h1.out _).mono ?_); rintro e w1 ⟨rfl, rfl⟩)
  go_ret2
  exact ⟨rfl, rfl⟩

theorem intInfo : (Try.prog.info? 3).map (fun i => (i.zero, i.size, i.bytes)) = some (some (.int .i64 0), 1, 8) := by kernel_rfl

set_option maxHeartbeats 1000000 in
set_option maxRecDepth 100000 in
theorem ringI_push_grows {w : World} {B r : Nat} {v : Value} {room n : Nat} {xs : List Value} (h : RingAt 227 1 w B r v room 0 n xs) (hr : n < room) (hr2 : room ≤ 4096) (hB : B ≤ w.heap.size) (x : Int) :
    Calls Try.prog 128 #[.pointer (some ⟨r, 0, none⟩), .int .i64 x] w fun e w' => e = .returned (.tuple #[.int .i64 0, .bool false]) ∧
      ∃ v', RingAt 227 1 w' B r v' room 0 (n + 1) (xs ++ [.int .i64 x]) ∧ Turned (fun k => k = r ∨ v.ownBlock = some k) w w' ∧ (∀ k, v'.ownBlock = some k → v.ownBlock = some k ∨ w.heap.size ≤ k) := by
  have h1 := Lib.hid (ringI_room h)
  have d0 : ((room : Int) == 0) = false := beq_eq_false_iff_ne.2 (by omega)
  have c0 := h.cell0
  have c2 := h.cell2
  obtain ⟨p, cap, ev, _⟩ := h.owns.sl
  have H := Lib.hid h
  rw [ev] at c2 H ⊢
  clear h ev
  go_enter Try.func128, Try.ntmps128
  go_wp2_with ((with_reducible refine h1.out.mono ?_); rintro e w1 ⟨rfl, rfl⟩)
  go_quiet (fail)
  have hs : (w.drewN nq).heap.size = w.heap.size := rfl
  have HO : Hid (Owns (w.drewN nq) B 1 (.slice p n cap) n xs) := H.out.owns.same (Nat.le_refl _) (fun _ _ => rfl)
  have HR : Hid (RingAt 227 1 (w.drewN nq) B r (.slice p n cap) room 0 n xs) := H.out.same (Nat.le_refl _) rfl (fun _ _ => rfl)
  go_wp2_with (at_builtin; refine wpList_append_new2 rfl _ _ 77 rfl _ _ 3 rfl B 3 (.int .i64 0) 1 8 Try.underlying77 intInfo rfl (by decide) _ _ _ rfl HR.out.owns rfl rfl (by simp [Value.oneCell']) (by unfold maxLen; omega) (by omega) hB ?_; intro u1 x1 ha1 hg1 hc1 hw1; obtain ⟨p1, cap1, rfl, _⟩ := ha1.sl; have k1 := (hg1.block r HR.out.lt (fun e => HR.out.apart e.symm)).trans HR.out.row; have c3 : x1.cell? ⟨r, 2, none⟩ = some (.slice p n cap) := (by rw [cell_of_row _ _ _ _ _ _ k1]; rfl); have g3 := frozen_of_row x1 r 2 _ _ k1)
  go_ret2
  have hap : (Value.slice p1 (n + 1) cap1).ownBlock ≠ some r := by
    rcases hw1 with hw1 | hw1
    · rw [hw1]; exact HR.out.apart
    · intro e; have := hw1 r e; have := HR.out.lt; omega
  refine ⟨rfl, _, ⟨HR.out.low, ?_, ha1.setOther _ hap, hap, fun h => by omega⟩, ?_, ?_⟩
  · rw [heap_setCell_same _ _ _ _ _ _ k1]; rfl
  · exact ((Turned.refl.drewN nq).grown hg1 (fun k hk _ => .inr hk)).setCell _ (fun _ => .inl rfl)
  · intro k hk
    rcases hw1 with hw1 | hw1
    · exact .inl (hw1 ▸ hk)
    · exact .inr (hw1 k hk)

set_option maxHeartbeats 2000000 in
set_option maxRecDepth 100000 in
theorem ringI_push_full {w : World} {B r : Nat} {v : Value} {room first : Nat} {xs : List Value} (h : RingAt 227 1 w B r v room first room xs) (hr1 : 1 ≤ room) (hr2 : room ≤ 4096) (hf : first < room) (y : Int) (hy : xs[first]? = some (.int .i64 y)) (x : Int) :
    Calls Try.prog 128 #[.pointer (some ⟨r, 0, none⟩), .int .i64 x] w fun e w' => e = .returned (.tuple #[.int .i64 y, .bool true]) ∧
      RingAt 227 1 w' B r v room ((first + 1) % room) room (xs.set first (.int .i64 x)) ∧ Turned (fun k => k = r ∨ v.ownBlock = some k) w w' := by
  obtain ⟨f1, ef1⟩ : ∃ f1, f1 = (first + 1) % room := ⟨_, rfl⟩
  have hm1 : Hid (((first : Int) + 1) % room = f1) := by show _ = _; rw [ef1]; simp
  rw [← ef1]
  clear ef1
  have h1 := Lib.hid (ringI_room h)
  have d0 : ((room : Int) == 0) = false := beq_eq_false_iff_ne.2 (by omega)
  have c0 := h.cell0
  have c2 := h.cell2
  obtain ⟨g, cap, ev, hgr, hBg, hgw, hrc⟩ := h.slice (by omega)
  have H := Lib.hid h
  rw [ev] at c2 H ⊢
  have HY := Lib.hid hy
  clear h ev hy
  have d1 : decide ((room : Int) < room) = false := decide_eq_false (by omega)
  go_enter Try.func128, Try.ntmps128
  go_wp2_with ((with_reducible refine h1.out.mono ?_); rintro e w1 ⟨rfl, rfl⟩)
  go_quiet (fail)
  have HR : Hid (RingAt 227 1 (w.drewN nq) B r (.slice (some ⟨g, 0, none⟩) room cap) room first room xs) := H.out.same (Nat.le_refl _) rfl (fun _ _ => rfl)
  clear c0 c2
  have c1 := HR.out.cell1
  have c2 := HR.out.cell2
  have c3 : (w.drewN nq).cell? ⟨g, first, none⟩ = some (.int .i64 y) := by
    obtain ⟨_, hO⟩ := HR.out.owns
    rcases hO with ⟨_, h0⟩ | ⟨g', cap', h0, _, _, _, h5, _⟩
    · omega
    · simp at h0; rw [h0.1]; exact h5 _ _ HY.out
  obtain ⟨W, hW⟩ : ∃ W, W = w.drewN nq := ⟨_, rfl⟩
  rw [← hW] at HR c1 c2 c3 ⊢
  have HT : Hid (Turned (fun k => k = r ∨ (Value.slice (some ⟨g, 0, none⟩) room cap).ownBlock = some k) w W) := by rw [hW]; exact Turned.refl.drewN nq
  clear hW
  go_wp2_with fail
  go_quiet (fail)
  have HR2 : Hid (RingAt 227 1 (W.drewN nq) B r (.slice (some ⟨g, 0, none⟩) room cap) room first room xs) := HR.out.same (Nat.le_refl _) rfl (fun _ _ => rfl)
  have HT2 := Lib.hid (HT.out.drewN nq)
  clear c1 c2 c3
  obtain ⟨W2, hW2⟩ : ∃ X, X = W.drewN nq := ⟨_, rfl⟩
  rw [← hW2] at HR2 HT2 ⊢
  clear hW2 HR HT
  go_wp2_with fail
  have hst := stab_and (stab_ring (TR := 227) (sz := 1) (B := B) (r := r) (v := .slice (some ⟨g, 0, none⟩) room cap) (room := room) (first := first) (n := room) (xs := xs)) (stab_turned (S := fun k => k = r ∨ (Value.slice (some ⟨g, 0, none⟩) room cap).ownBlock = some k) (w := w))
  refine wp_region_E mixed [10] hst ⟨HR2.out.same (Nat.le_refl _) rfl (fun _ _ => rfl), HT2.out.drewN 1⟩ ?_
  refine wpAnyE_take 0 rfl (by kernel_rfl) (by kernel_rfl) (by kernel_rfl) (fun _ _ _ h => h) hst (EffB.pure rfl (fun _ => rfl)) (.inr (EffB.pure rfl (fun _ => rfl))) ?_
  simp only [act_norm]
  refine wpAnyE_take 1 (v := .pointer (some ⟨r, 0, none⟩)) rfl (by kernel_rfl) (by kernel_rfl) (by kernel_rfl) (fun _ _ _ h => h) hst (EffB.run rfl rfl (fun wd hS => ?_)) (.inr (EffB.run rfl rfl (fun wd hS => ?_))) ?_
  · (go_wp2; exact ⟨rfl, Below.refl _ _⟩)
  · (go_wp2; exact ⟨rfl, Below.refl _ _⟩)
  simp only [act_norm]
  refine wpAnyE_take 2 (v := .pointer (some ⟨r, 2, none⟩)) rfl (by kernel_rfl) (by kernel_rfl) (by kernel_rfl) (fun _ _ _ h => h) hst (EffB.run rfl rfl (fun wd hS => ?_)) (.inr (EffB.run rfl rfl (fun wd hS => ?_))) ?_
  · (go_wp2; exact ⟨rfl, Below.refl _ _⟩)
  · (go_wp2; exact ⟨rfl, Below.refl _ _⟩)
  simp only [act_norm]
  refine wpAnyE_take 3 (v := .slice (some ⟨g, 0, none⟩) room cap) rfl (by kernel_rfl) (by kernel_rfl) (by kernel_rfl) (fun _ _ _ h => h) hst (EffB.run rfl rfl (fun wd hS => ?_)) (.inl (by kernel_rfl)) ?_
  · (have c2 : wd.cell? ⟨r, 2, none⟩ = some (.slice (some ⟨g, 0, none⟩) room cap) := by rw [cell_of_row _ _ _ _ _ _ (hS.1.row)]; rfl); go_wp2; exact ⟨rfl, Below.refl _ _⟩
  simp only [act_norm]
  refine wpAnyE_take 4 rfl (by kernel_rfl) (by kernel_rfl) (by kernel_rfl) (fun _ _ _ h => h) hst (EffB.pure rfl (fun _ => rfl)) (.inr (EffB.pure rfl (fun _ => rfl))) ?_
  simp only [act_norm]
  refine wpAnyE_take 5 (v := .pointer (some ⟨r, 0, none⟩)) rfl (by kernel_rfl) (by kernel_rfl) (by kernel_rfl) (fun _ _ _ h => h) hst (EffB.run rfl rfl (fun wd hS => ?_)) (.inr (EffB.run rfl rfl (fun wd hS => ?_))) ?_
  · (go_wp2; exact ⟨rfl, Below.refl _ _⟩)
  · (go_wp2; exact ⟨rfl, Below.refl _ _⟩)
  simp only [act_norm]
  refine wpAnyE_take 6 (v := .pointer (some ⟨r, 1, none⟩)) rfl (by kernel_rfl) (by kernel_rfl) (by kernel_rfl) (fun _ _ _ h => h) hst (EffB.run rfl rfl (fun wd hS => ?_)) (.inr (EffB.run rfl rfl (fun wd hS => ?_))) ?_
  · (go_wp2; exact ⟨rfl, Below.refl _ _⟩)
  · (go_wp2; exact ⟨rfl, Below.refl _ _⟩)
  simp only [act_norm]
  refine wpAnyE_take 7 (v := .int .i64 first) rfl (by kernel_rfl) (by kernel_rfl) (by kernel_rfl) (fun _ _ _ h => h) hst (EffB.run rfl rfl (fun wd hS => ?_)) (.inl (by kernel_rfl)) ?_
  · (have c2 : wd.cell? ⟨r, 1, none⟩ = some (.int .i64 first) := by rw [cell_of_row _ _ _ _ _ _ (hS.1.row)]; rfl); go_wp2; exact ⟨rfl, Below.refl _ _⟩
  simp only [act_norm]
  refine wpAnyE_take 8 rfl (by kernel_rfl) (by kernel_rfl) (by kernel_rfl) (fun _ _ _ h => h) hst (EffB.pure rfl (fun _ => rfl)) (.inr (EffB.pure rfl (fun _ => rfl))) ?_
  simp only [act_norm]
  refine wpAnyE_take 9 (v := .pointer (some ⟨g, first, none⟩)) rfl (by kernel_rfl) (by kernel_rfl) (by kernel_rfl) (fun _ _ _ h => h) hst (EffB.run rfl rfl (fun wd hS => ?_)) (.inr (EffB.run rfl rfl (fun wd hS => ?_))) ?_
  · (go_wp2; exact ⟨rfl, Below.refl _ _⟩)
  · (go_wp2; exact ⟨rfl, Below.refl _ _⟩)
  simp only [act_norm]
  refine wpAnyE_one 10 rfl (by kernel_rfl) rfl (fun wd hS => ?_)
  have c3 : wd.cell? ⟨g, first, none⟩ = some (.int .i64 y) := by
    obtain ⟨_, hO⟩ := hS.1.owns
    rcases hO with ⟨_, h0⟩ | ⟨g', cap', h0, _, _, _, h5, _⟩
    · omega
    · simp at h0; rw [h0.1]; exact h5 _ _ HY.out
  have g3 : wd.frozen? ⟨g, first, none⟩ = false := by
    obtain ⟨_, hO⟩ := hS.1.owns
    rcases hO with ⟨_, h0⟩ | ⟨g', cap', h0, _, _, _, _, h6⟩
    · omega
    · simp at h0; rw [h0.1]; exact (h6 _ (by omega)).2
  have hr3 : RingAt 227 1 (wd.setCell ⟨g, first, none⟩ (.int .i64 x)) B r (.slice (some ⟨g, 0, none⟩) room cap) room first room (xs.set first (.int .i64 x)) :=
    ⟨hS.1.low, (Below.heap_setCell _ _ _ _ (fun e => hgr e.symm)).trans hS.1.row, hS.1.owns.put rfl first _ hf, hS.1.apart, fun h => by omega⟩
  have ht3 := hS.2.setCell (b := g) (j := first) (.int .i64 x) (fun _ => .inr rfl)
  have X3 := Lib.hid hr3
  have Y3 := Lib.hid ht3
  have hst4 := stab_and (stab_ring (TR := 227) (sz := 1) (B := B) (r := r) (v := .slice (some ⟨g, 0, none⟩) room cap) (room := room) (first := first) (n := room) (xs := xs.set first (.int .i64 x))) (stab_turned (S := fun k => k = r ∨ (Value.slice (some ⟨g, 0, none⟩) room cap).ownBlock = some k) (w := w))
  clear hS hst hr3 ht3
  go_wp2
  refine ⟨_, ⟨X3.out, Y3.out⟩, hst4, ?_⟩
  have hst := hst4
  clear X3 Y3 c3 g3 HR2 HT2
  try simp only [act_norm]
  refine wpAnyE_done (by kernel_rfl) (fun wd2 hS => ?_) _
  have HS := Lib.hid hS
  clear hS
  go_wp2_with fail
  refine wp_region_E mixed [13] hst ⟨HS.out.1.same (Nat.le_refl _) rfl (fun _ _ => rfl), HS.out.2.drewN 1⟩ ?_
  refine wpAnyE_take 0 rfl (by kernel_rfl) (by kernel_rfl) (by kernel_rfl) (fun _ _ _ h => h) hst (EffB.pure rfl (fun _ => rfl)) (.inr (EffB.pure rfl (fun _ => rfl))) ?_
  simp only [act_norm]
  refine wpAnyE_take 1 rfl (by kernel_rfl) (by kernel_rfl) (by kernel_rfl) (fun _ _ _ h => h) hst (EffB.pure rfl (fun _ => rfl)) (.inr (EffB.pure rfl (fun _ => rfl))) ?_
  simp only [act_norm]
  refine wpAnyE_take 2 (v := .pointer (some ⟨r, 0, none⟩)) rfl (by kernel_rfl) (by kernel_rfl) (by kernel_rfl) (fun _ _ _ h => h) hst (EffB.run rfl rfl (fun wd hS => ?_)) (.inr (EffB.run rfl rfl (fun wd hS => ?_))) ?_
  · (go_wp2; exact ⟨rfl, Below.refl _ _⟩)
  · (go_wp2; exact ⟨rfl, Below.refl _ _⟩)
  simp only [act_norm]
  refine wpAnyE_take 3 (v := .pointer (some ⟨r, 1, none⟩)) rfl (by kernel_rfl) (by kernel_rfl) (by kernel_rfl) (fun _ _ _ h => h) hst (EffB.run rfl rfl (fun wd hS => ?_)) (.inr (EffB.run rfl rfl (fun wd hS => ?_))) ?_
  · (go_wp2; exact ⟨rfl, Below.refl _ _⟩)
  · (go_wp2; exact ⟨rfl, Below.refl _ _⟩)
  simp only [act_norm]
  refine wpAnyE_take 4 (v := .int .i64 first) rfl (by kernel_rfl) (by kernel_rfl) (by kernel_rfl) (fun _ _ _ h => h) hst (EffB.run rfl rfl (fun wd hS => ?_)) (.inl (by kernel_rfl)) ?_
  · (have c2 : wd.cell? ⟨r, 1, none⟩ = some (.int .i64 first) := by rw [cell_of_row _ _ _ _ _ _ (hS.1.row)]; rfl); go_wp2; exact ⟨rfl, Below.refl _ _⟩
  simp only [act_norm]
  refine wpAnyE_take 5 (v := .int .i64 ((first : Int) + 1)) rfl (by kernel_rfl) (by kernel_rfl) (by kernel_rfl) (fun _ _ _ h => h) hst (EffB.run rfl rfl (fun wd hS => ?_)) (.inr (EffB.run rfl rfl (fun wd hS => ?_))) ?_
  · (go_wp2; exact ⟨rfl, Below.refl _ _⟩)
  · (go_wp2; exact ⟨rfl, Below.refl _ _⟩)
  simp only [act_norm]
  refine wpAnyE_take 6 rfl (by kernel_rfl) (by kernel_rfl) (by kernel_rfl) (fun _ _ _ h => h) hst (EffB.pure rfl (fun _ => rfl)) (.inr (EffB.pure rfl (fun _ => rfl))) ?_
  simp only [act_norm]
  refine wpAnyE_take 7 (v := .pointer (some ⟨r, 0, none⟩)) rfl (by kernel_rfl) (by kernel_rfl) (by kernel_rfl) (fun _ _ _ h => h) hst (EffB.run rfl rfl (fun wd hS => ?_)) (.inr (EffB.run rfl rfl (fun wd hS => ?_))) ?_
  · (go_wp2; exact ⟨rfl, Below.refl _ _⟩)
  · (go_wp2; exact ⟨rfl, Below.refl _ _⟩)
  simp only [act_norm]
  refine wpAnyE_take 8 (v := .pointer (some ⟨r, 0, none⟩)) rfl (by kernel_rfl) (by kernel_rfl) (by kernel_rfl) (fun _ _ _ h => h) hst (EffB.run rfl rfl (fun wd hS => ?_)) (.inr (EffB.run rfl rfl (fun wd hS => ?_))) ?_
  · (go_wp2; exact ⟨rfl, Below.refl _ _⟩)
  · (go_wp2; exact ⟨rfl, Below.refl _ _⟩)
  simp only [act_norm]
  refine wpAnyE_take 9 (v := .int .i64 room) rfl (by kernel_rfl) (by kernel_rfl) (by kernel_rfl) (fun _ _ _ h => h) hst (EffB.run rfl rfl (fun wd hS => ?_)) (.inl (by kernel_rfl)) ?_
  · (have c2 : wd.cell? ⟨r, 0, none⟩ = some (.int .i64 room) := by rw [cell_of_row _ _ _ _ _ _ (hS.1.row)]; rfl); go_wp2; exact ⟨rfl, Below.refl _ _⟩
  simp only [act_norm]
  refine wpAnyE_take 10 (v := .int .i64 (((first : Int) + 1) % room)) rfl (by kernel_rfl) (by kernel_rfl) (by kernel_rfl) (fun _ _ _ h => h) hst (EffB.run rfl rfl (fun wd hS => ?_)) (.inr (EffB.run rfl rfl (fun wd hS => ?_))) ?_
  · (go_wp2; exact ⟨rfl, Below.refl _ _⟩)
  · (go_wp2; exact ⟨rfl, Below.refl _ _⟩)
  simp only [act_norm]
  rw [hm1.out]
  refine wpAnyE_take 11 (v := .pointer (some ⟨r, 0, none⟩)) rfl (by kernel_rfl) (by kernel_rfl) (by kernel_rfl) (fun _ _ _ h => h) hst (EffB.run rfl rfl (fun wd hS => ?_)) (.inr (EffB.run rfl rfl (fun wd hS => ?_))) ?_
  · (go_wp2; exact ⟨rfl, Below.refl _ _⟩)
  · (go_wp2; exact ⟨rfl, Below.refl _ _⟩)
  simp only [act_norm]
  refine wpAnyE_take 12 (v := .pointer (some ⟨r, 1, none⟩)) rfl (by kernel_rfl) (by kernel_rfl) (by kernel_rfl) (fun _ _ _ h => h) hst (EffB.run rfl rfl (fun wd hS => ?_)) (.inr (EffB.run rfl rfl (fun wd hS => ?_))) ?_
  · (go_wp2; exact ⟨rfl, Below.refl _ _⟩)
  · (go_wp2; exact ⟨rfl, Below.refl _ _⟩)
  simp only [act_norm]
  refine wpAnyE_one 13 rfl (by kernel_rfl) rfl (fun wd3 hS => ?_)
  have c3 := hS.1.cell1
  have g3 := hS.1.free 1
  have hr3 : RingAt 227 1 (wd3.setCell ⟨r, 1, none⟩ (.int .i64 f1)) B r (.slice (some ⟨g, 0, none⟩) room cap) room f1 room (xs.set first (.int .i64 x)) :=
    ⟨hS.1.low, by rw [heap_setCell_same _ _ _ _ _ _ hS.1.row]; rfl, hS.1.owns.setOther _ hS.1.apart, hS.1.apart, fun h => by omega⟩
  have ht3 := hS.2.setCell (b := r) (j := 1) (.int .i64 f1) (fun _ => .inl rfl)
  have X3 := Lib.hid hr3
  have Y3 := Lib.hid ht3
  clear hS hst hr3 ht3
  go_wp2
  refine ⟨_, ⟨X3.out, Y3.out⟩, stab_and stab_ring stab_turned, ?_⟩
  clear X3 Y3 c3 g3
  try simp only [act_norm]
  refine wpAnyE_done (by kernel_rfl) (fun wd4 hS => ?_) _
  go_wp2
  go_ret2
  exact ⟨rfl, hS.1, hS.2⟩
end Go.Proofs.Ytapgcbjlgekpeaa

/- Layer 7: slices.Grow and slices.Concat, of ints. -/
namespace Go.Proofs.Ytapgcbjlgekpeaa
open Go.ChangeShapes Go.WideShapes Go.ChangeAt Go.RowKit

/-- A slice that is read: its things' cells. -/
def Src (w : World) (s : Value) (n sz : Nat) (xs : List Value) : Prop :=
  ∃ p c, s = .slice p n c ∧ xs.length = n * sz ∧ (p = none → n = 0 ∧ c = 0) ∧ ∀ ad, p = some ad → ad.block < w.heap.size ∧ ∀ j u, xs[j]? = some u → w.cell? (ad.add j) = some u
theorem Src.below {w w' : World} {s : Value} {n sz : Nat} {xs : List Value} (h : Src w s n sz xs) (hb : Below w.heap.size w w') : Src w' s n sz xs := by
  obtain ⟨p, c, h1, h2, h3, h4⟩ := h
  refine ⟨p, c, h1, h2, h3, fun ad had => ?_⟩
  obtain ⟨h5, h6⟩ := h4 ad had
  refine ⟨Nat.lt_of_lt_of_le h5 hb.size, fun j u hu => ?_⟩
  rw [hb.cell (p := ad.add j) (by unfold Addr.add; split <;> exact h5)]
  exact h6 j u hu
theorem src_nil (w : World) (sz : Nat) : Src w (.slice none 0 0) 0 sz [] := ⟨none, 0, rfl, by simp, fun _ => ⟨rfl, rfl⟩, fun _ h => by cases h⟩
theorem stab_src {s : Value} {n sz : Nat} {xs : List Value} : Stab (fun w' => Src w' s n sz xs) := fun _ _ h hb => h.below hb

theorem zeroCells_size (z : Value) (n : Nat) : (Builtin.zeroCells #[z] n).size = n := by
  unfold Builtin.zeroCells
  simp

set_option maxHeartbeats 1000000 in
set_option maxRecDepth 100000 in
theorem growI_nil (n : Nat) (hn : n ≤ 100000) (w : World) :
    Calls Try.prog 196 #[.slice none 0 0, .int .i64 n] w fun e w' => ∃ v, e = .returned v ∧ Owns w' w.heap.size 1 v 0 [] ∧ Below w.heap.size w w' := by
  by_cases h0 : n = 0
  · subst h0
    go_enter Try.func196, Try.ntmps196
    go_wp2
    go_ret
    exact ⟨_, rfl, owns_nil _ _ _, Below.refl _ _⟩
  · obtain ⟨i0, hi, hz0, hz1, hz2⟩ := info_parts intInfo
    have hrz : ∀ ty, (Builtin.append_ #[77, 3] ty #[.slice none 0 0, .int .i64 n]).run Try.prog w =
        .ok (.slice (some ⟨w.heap.size, 0, none⟩) n (grownCap w n 0 3)) (w.drew.alloc (.cells (#[] ++ Builtin.zeroCells #[.int .i64 0] n ++ Builtin.zeroCells #[.int .i64 0] (grownCap w n 0 3 - n)) 3)) := fun ty => by
      have h := Lib.run_append_grow_zeros (P := Try.prog) w 77 3 ty 3 i0 (.int .i64 0) .i64 .i64 Try.underlying77 Try.underlying3 hi hz0 none 0 0 [] (run_firstCells_none w.drew i0.size 0 0 0) n (by omega) (by rw [hz1]; decide) (by omega) (by omega) (by rw [hz2]; omega)
        (by have := growslice_fits (need := 0 + n) (old := 0) (bytes := i0.bytes) (by omega) (by rw [hz2]; omega); exact this)
      rw [Nat.zero_add] at h
      exact h
    have hG := grownCap_ge w n 0 3
    have hG2 : grownCap w n 0 3 ≤ 9223372036854775807 := by
      have := grownCap_le_maxLen w n 0 3 (by unfold maxLen; omega)
      unfold maxLen at this
      omega
    obtain ⟨G, eG⟩ : ∃ G, G = grownCap w n 0 3 := ⟨_, rfl⟩
    rw [← eG] at hG hG2
    simp only [← eG] at hrz
    clear eG
    have how : Owns (w.drew.alloc (.cells (#[] ++ Builtin.zeroCells #[.int .i64 0] n ++ Builtin.zeroCells #[.int .i64 0] (G - n)) 3)) w.heap.size 1 (.slice (some ⟨w.heap.size, 0, none⟩) 0 G) 0 [] := by
      refine ⟨rfl, .inr ⟨w.heap.size, G, rfl, Nat.le_refl _, by simp, Nat.zero_le _, fun j u hu => by simp at hu, fun j hj => ?_⟩⟩
      have hh : (w.drew.alloc (.cells (#[] ++ Builtin.zeroCells #[.int .i64 0] n ++ Builtin.zeroCells #[.int .i64 0] (G - n)) 3)).heap[w.heap.size]? = some (.cells (#[] ++ Builtin.zeroCells #[.int .i64 0] n ++ Builtin.zeroCells #[.int .i64 0] (G - n)) 3 (0, 0)) := heap_alloc_at _ _ _ rfl
      refine ⟨?_, frozen_of_row _ _ _ _ _ hh⟩
      rw [cell_of_row _ _ _ _ _ _ hh]
      rw [Array.getElem?_eq_getElem (by simp [zeroCells_size]; omega)]
      rfl
    have HOW := Lib.hid how
    have HB : Hid (Below w.heap.size w (w.drew.alloc (.cells (#[] ++ Builtin.zeroCells #[.int .i64 0] n ++ Builtin.zeroCells #[.int .i64 0] (G - n)) 3))) := ((Below.refl _ w).drew).alloc (Nat.le_refl _) _
    clear hi hz0 hz1 hz2 i0 how
    obtain ⟨W, hW⟩ : ∃ W, W = (w.drew.alloc (.cells (#[] ++ Builtin.zeroCells #[.int .i64 0] n ++ Builtin.zeroCells #[.int .i64 0] (G - n)) 3)) := ⟨_, rfl⟩
    rw [← hW] at HOW HB
    simp only [← hW] at hrz
    clear hW
    have hz := Lib.hid hrz
    clear hrz
    go_enter Try.func196, Try.ntmps196
    go_wp2_with (at_builtin; refine Lib.wpList_append_run _ rfl _ _ _ _ rfl _ _ rfl rfl _ _ (hz.out _) ?_)
    go_ret
    exact ⟨_, rfl, HOW.out, HB.out⟩

def cat2 {α : Type} (l1 l2 : List α) (k : Nat) : List α := if k = 0 then [] else if k = 1 then l1 else l1 ++ l2
def sum2 (n1 n2 k : Nat) : Nat := if k = 0 then 0 else if k = 1 then n1 else n1 + n2

set_option maxHeartbeats 2000000 in
set_option maxRecDepth 100000 in
theorem concatI (bo : Nat) (s1 s2 : Value) (n1 n2 : Nat) (l1 l2 : List Value) (hb : n1 + n2 ≤ 4096) (ho1 : ∀ u ∈ l1, u.oneCell' = true) (ho2 : ∀ u ∈ l2, u.oneCell' = true) (w : World)
    (hbo : w.heap[bo]? = some (.cells #[s1, s2] 77 (0, 0))) (h1 : Src w s1 n1 1 l1) (h2 : Src w s2 n2 1 l2) :
    Calls Try.prog 186 #[.slice (some ⟨bo, 0, none⟩) 2 2] w fun e w' => ∃ v, e = .returned v ∧ Owns w' w.heap.size 1 v (n1 + n2) (l1 ++ l2) ∧ Below w.heap.size w w' := by
  have hg0 := growI_nil (n1 + n2) (by omega)
  rw [show ((n1 + n2 : Nat) : Int) = (n1 : Int) + n2 by omega] at hg0
  have hg := Lib.hid hg0
  clear hg0
  obtain ⟨p1, c1, rfl, hl1, hz1, hs1⟩ := h1
  obtain ⟨p2, c2, rfl, hl2, hz2, hs2⟩ := h2
  have hblt := lt_of_heap hbo
  have a0 : w.cell? ⟨bo, 0, none⟩ = some (.slice p1 n1 c1) := by rw [cell_of_row _ _ _ _ _ _ hbo]; rfl
  have a1 : w.cell? ⟨bo, 1, none⟩ = some (.slice p2 n2 c2) := by rw [cell_of_row _ _ _ _ _ _ hbo]; rfl
  have HS1 : Hid (Src w (.slice p1 n1 c1) n1 1 l1) := ⟨p1, c1, rfl, hl1, hz1, hs1⟩
  have HS2 : Hid (Src w (.slice p2 n2 c2) n2 1 l2) := ⟨p2, c2, rfl, hl2, hz2, hs2⟩
  have HBO := Lib.hid hbo
  have HO1 := Lib.hid ho1
  have HO2 := Lib.hid ho2
  have HL1 := Lib.hid hl1
  have HL2 := Lib.hid hl2
  clear hl1 hz1 hs1 hl2 hz2 hs2 hbo ho1 ho2
  go_enter Try.func186, Try.ntmps186
  go_wp2
  go_loop [3, 11] (fun s i => ∃ k : Nat, k ≤ 2 ∧ i = .int .i64 k ∧ s = .int .i64 (sum2 n1 n2 k)) (fun _ i => 2 - (intOf i).toNat)
  case atStart => exact ⟨0, by omega, rfl, rfl⟩
  case round =>
    obtain ⟨k, hk, rfl, rfl⟩ := hrel
    obtain rfl | rfl | rfl : k = 0 ∨ k = 1 ∨ k = 2 := by omega
    · have e0 : sum2 n1 n2 0 = 0 := rfl
      rw [e0]
      clear hk
      go_wp2
      exact ⟨⟨1, by omega, by go_num, by rfl⟩, by simp [intOf]⟩
    · have e0 : sum2 n1 n2 1 = n1 := rfl
      rw [e0]
      clear hk
      go_wp2
      exact ⟨⟨2, by omega, by go_num, by rfl⟩, by simp [intOf]⟩
    · have e0 : sum2 n1 n2 2 = n1 + n2 := rfl
      rw [e0]
      clear hk e0
      go_wp2_with fail
      (with_reducible refine (hg.out _).mono ?_)
      rintro e w1 ⟨v, rfl, hO, hB⟩
      have HO := Lib.hid hO
      have HB := Lib.hid hB
      clear hO hB
      go_wp2
      go_loopw [6, 27] (fun u i wr => ∃ k : Nat, k ≤ 2 ∧ i = .int .i64 k ∧ Owns wr w.heap.size 1 u (sum2 n1 n2 k) (cat2 l1 l2 k) ∧ Below w.heap.size w wr) (fun _ i _ => 2 - (intOf i).toNat)
      case atStart => exact ⟨0, by omega, rfl, HO.out, HB.out⟩
      case round =>
        obtain ⟨k, hk, rfl, hO, hB⟩ := hrel
        have O := Lib.hid hO
        have BB := Lib.hid hB
        obtain rfl | rfl | rfl : k = 0 ∨ k = 1 ∨ k = 2 := by omega
        · have b0 : wr.cell? ⟨bo, 0, none⟩ = some (.slice p1 n1 c1) := (hB.cell (p := ⟨bo, 0, none⟩) hblt).trans a0
          have S1 := HS1.out.below hB
          obtain ⟨p', c', e', _, hz1, hs1⟩ := S1
          obtain ⟨rfl, rfl⟩ : p' = p1 ∧ c' = c1 := by simp at e'; exact ⟨e'.1.symm, e'.2.symm⟩
          have HN := Lib.hid hz1
          have HC := Lib.hid (fun ad h => (hs1 ad h).2)
          clear hO hB hk hz1 hs1 e'
          go_wp2_with (at_builtin; refine wpList_append_any2 rfl _ _ 77 rfl w.heap.size 3 (.int .i64 0) 1 8 Try.underlying77 intInfo rfl (by decide) _ _ _ rfl O.out _ _ _ l1 rfl (by rw [HL1.out]) HN.out HC.out HO1.out (by unfold maxLen; simp [sum2]; omega) (by simp [sum2]; omega) BB.out.size ?_; intro u1 x1 ha1 hg1 hw1)
          exact ⟨⟨1, by omega, by go_num, by simpa [sum2, cat2] using ha1, BB.out.grown hg1 BB.out.size (fun k hk => (O.out.lt k hk).1)⟩, by simp [intOf]⟩
        · have b0 : wr.cell? ⟨bo, 1, none⟩ = some (.slice p2 n2 c2) := (hB.cell (p := ⟨bo, 1, none⟩) hblt).trans a1
          have S1 := HS2.out.below hB
          obtain ⟨p', c', e', _, hz1, hs1⟩ := S1
          obtain ⟨rfl, rfl⟩ : p' = p2 ∧ c' = c2 := by simp at e'; exact ⟨e'.1.symm, e'.2.symm⟩
          have HN := Lib.hid hz1
          have HC := Lib.hid (fun ad h => (hs1 ad h).2)
          clear hO hB hk hz1 hs1 e'
          go_wp2_with (at_builtin; refine wpList_append_any2 rfl _ _ 77 rfl w.heap.size 3 (.int .i64 0) 1 8 Try.underlying77 intInfo rfl (by decide) _ _ _ rfl O.out _ _ _ l2 rfl (by rw [HL2.out]) HN.out HC.out HO2.out (by unfold maxLen; simp [sum2]; omega) (by simp [sum2]; omega) BB.out.size ?_; intro u1 x1 ha1 hg1 hw1)
          exact ⟨⟨2, by omega, by go_num, by simpa [sum2, cat2] using ha1, BB.out.grown hg1 BB.out.size (fun k hk => (O.out.lt k hk).1)⟩, by simp [intOf]⟩
        · clear hO hB
          go_wp2
          go_ret
          exact ⟨_, rfl, O.out, BB.out⟩
end Go.Proofs.Ytapgcbjlgekpeaa

/- Layer 7: all things of a ring of ints. -/
namespace Go.Proofs.Ytapgcbjlgekpeaa
open Go.ChangeShapes Go.WideShapes Go.ChangeAt Go.RowKit

def rot {α : Type} (f : Nat) (l : List α) : List α := l.drop f ++ l.take f

theorem Owns.src {w : World} {B n : Nat} {g cap : Nat} {xs : List Value} (h : Owns w B 1 (.slice (some ⟨g, 0, none⟩) n cap) n xs) (first : Nat) (hf : first ≤ n) :
    Src w (.slice (some ⟨g, first, none⟩) (n - first) (cap - first)) (n - first) 1 (xs.drop first) ∧ Src w (.slice (some ⟨g, 0, none⟩) first cap) first 1 (xs.take first) := by
  obtain ⟨hl, h⟩ := h
  rcases h with ⟨h1, _⟩ | ⟨g', cap', h1, h2, h3, h4, h5, h6⟩
  · simp at h1
  · simp only [Value.slice.injEq, Option.some.injEq, Addr.mk.injEq, and_true, true_and] at h1
    obtain ⟨rfl, rfl⟩ := h1
    refine ⟨⟨_, _, rfl, by rw [List.length_drop]; omega, by simp, fun ad had => ?_⟩, ⟨_, _, rfl, by rw [List.length_take]; omega, by simp, fun ad had => ?_⟩⟩
    · obtain rfl : ad = ⟨g, first, none⟩ := by simpa using had.symm
      refine ⟨h3, fun j u hu => ?_⟩
      rw [List.getElem?_drop] at hu
      have : (⟨g, first, none⟩ : Addr).add j = ⟨g, first + j, none⟩ := by unfold Addr.add; split <;> simp_all
      rw [this]
      exact h5 _ _ hu
    · obtain rfl : ad = ⟨g, 0, none⟩ := by simpa using had.symm
      refine ⟨h3, fun j u hu => ?_⟩
      have hj : j < first := by have := (List.getElem?_eq_some_iff.1 hu).1; rw [List.length_take] at this; omega
      rw [List.getElem?_take_of_lt hj] at hu
      have : (⟨g, 0, none⟩ : Addr).add j = ⟨g, j, none⟩ := by unfold Addr.add; split <;> simp_all
      rw [this]
      exact h5 _ _ hu

/-- What 'All' hands back: a function that has all things in a box. -/
def AllOf (fn T : Nat) (w : World) (n sz : Nat) (xs : List Value) (e : Ending) (w' : World) : Prop :=
  ∃ Bn u, e = .returned (.func (.func fn) #[] #[.pointer (some ⟨Bn, 0, none⟩)]) ∧ w.heap.size ≤ Bn ∧ w'.heap[Bn]? = some (.cells #[u] T (0, 0)) ∧ Owns w' (Bn + 1) sz u n xs ∧ Below w.heap.size w w'

set_option maxHeartbeats 2000000 in
set_option maxRecDepth 100000 in
theorem ringI_all_nil (w : World) : Calls Try.prog 165 #[.pointer none] w (AllOf 187 77 w 0 1 []) := by
  go_enter Try.func165, Try.ntmps165
  go_wp2
  go_ret
  exact ⟨w.heap.size, _, rfl, Nat.le_refl _, (by first | (with_reducible exact heap_1_0 _ _) | (with_reducible exact heap_2_0 _ _ _) | (with_reducible exact heap_2_1 _ _ _) | (with_reducible exact heap_3_0 _ _ _ _) | (with_reducible exact heap_3_1 _ _ _ _) | (with_reducible exact heap_3_2 _ _ _ _) | (with_reducible exact heap_4_0 _ _ _ _ _) | (with_reducible exact heap_4_1 _ _ _ _ _) | (with_reducible exact heap_4_2 _ _ _ _ _) | (with_reducible exact heap_4_3 _ _ _ _ _) | (with_reducible exact heap_5_0 _ _ _ _ _ _) | (with_reducible exact heap_5_1 _ _ _ _ _ _) | (with_reducible exact heap_5_2 _ _ _ _ _ _) | (with_reducible exact heap_5_3 _ _ _ _ _ _) | (with_reducible exact heap_5_4 _ _ _ _ _ _) | (with_reducible exact heap_6_0 _ _ _ _ _ _ _) | (with_reducible exact heap_6_1 _ _ _ _ _ _ _) | (with_reducible exact heap_6_2 _ _ _ _ _ _ _) | (with_reducible exact heap_6_3 _ _ _ _ _ _ _) | (with_reducible exact heap_6_4 _ _ _ _ _ _ _) | (with_reducible exact heap_6_5 _ _ _ _ _ _ _) | simp only [heap_alloc_past, heap_alloc_at, World.size_alloc, Nat.add_assoc, Nat.reduceAdd, Nat.lt_add_right_iff_pos, Nat.add_lt_add_iff_left, Nat.reduceLT, Nat.zero_lt_succ, Nat.lt_add_one]), owns_nil _ _ _, below1 _ _⟩

set_option maxHeartbeats 2000000 in
set_option maxRecDepth 100000 in
theorem ringI_all_some {w : World} {B r g cap : Nat} {room first n : Nat} {xs : List Value} (h : RingAt 227 1 w B r (.slice (some ⟨g, 0, none⟩) n cap) room first n xs) (hn : n ≤ 4096) (hf : first < n) (hcap : n ≤ cap) (h1 : ∀ u ∈ xs, u.oneCell' = true) :
    Calls Try.prog 165 #[.pointer (some ⟨r, 0, none⟩)] w (AllOf 187 77 w n 1 (rot first xs)) := by
  have H := Lib.hid h
  have H1 := Lib.hid h1
  have hst := stab_and (stab_and (stab_ring (TR := 227) (sz := 1) (B := B) (r := r) (v := .slice (some ⟨g, 0, none⟩) n cap) (room := room) (first := first) (n := n) (xs := xs)) (stab_heap w.heap.size (.cells #[.slice none 0 0] 77 (0, 0)))) (stab_below (B := w.heap.size) (w0 := w) (Nat.le_refl _))
  clear h h1
  go_enter Try.func165, Try.ntmps165
  go_wp2
  refine wp_region_E mixed [20] hst ⟨⟨(H.out.below (below1 _ _)).same (Nat.le_refl _) rfl (fun _ _ => rfl), heap_alloc_at _ _ _ rfl⟩, below_drew (below1 _ _)⟩ ?_
  refine wpAnyE_take 0 rfl (by kernel_rfl) (by kernel_rfl) (by kernel_rfl) (fun _ _ _ h => h) hst (EffB.pure rfl (fun _ => rfl)) (.inr (EffB.pure rfl (fun _ => rfl))) ?_
  simp only [act_norm]
  refine wpAnyE_take 1 (v := .pointer (some ⟨r, 0, none⟩)) rfl (by kernel_rfl) (by kernel_rfl) (by kernel_rfl) (fun _ _ _ h => h) hst (EffB.run rfl rfl (fun wd hS => ?_)) (.inr (EffB.run rfl rfl (fun wd hS => ?_))) ?_
  · (go_wp2; exact ⟨rfl, Below.refl _ _⟩)
  · (go_wp2; exact ⟨rfl, Below.refl _ _⟩)
  simp only [act_norm]
  refine wpAnyE_take 2 (v := .pointer (some ⟨r, 2, none⟩)) rfl (by kernel_rfl) (by kernel_rfl) (by kernel_rfl) (fun _ _ _ h => h) hst (EffB.run rfl rfl (fun wd hS => ?_)) (.inr (EffB.run rfl rfl (fun wd hS => ?_))) ?_
  · (go_wp2; exact ⟨rfl, Below.refl _ _⟩)
  · (go_wp2; exact ⟨rfl, Below.refl _ _⟩)
  simp only [act_norm]
  refine wpAnyE_take 3 (v := .slice (some ⟨g, 0, none⟩) n cap) rfl (by kernel_rfl) (by kernel_rfl) (by kernel_rfl) (fun _ _ _ h => h) hst (EffB.run rfl rfl (fun wd hS => ?_)) (.inl (by kernel_rfl)) ?_
  · (have c2 : wd.cell? ⟨r, 2, none⟩ = some (.slice (some ⟨g, 0, none⟩) n cap) := by rw [cell_of_row _ _ _ _ _ _ (hS.1.1.row)]; rfl); go_wp2; exact ⟨rfl, Below.refl _ _⟩
  simp only [act_norm]
  refine wpAnyE_take 4 rfl (by kernel_rfl) (by kernel_rfl) (by kernel_rfl) (fun _ _ _ h => h) hst (EffB.pure rfl (fun _ => rfl)) (.inr (EffB.pure rfl (fun _ => rfl))) ?_
  simp only [act_norm]
  refine wpAnyE_take 5 (v := .pointer (some ⟨r, 0, none⟩)) rfl (by kernel_rfl) (by kernel_rfl) (by kernel_rfl) (fun _ _ _ h => h) hst (EffB.run rfl rfl (fun wd hS => ?_)) (.inr (EffB.run rfl rfl (fun wd hS => ?_))) ?_
  · (go_wp2; exact ⟨rfl, Below.refl _ _⟩)
  · (go_wp2; exact ⟨rfl, Below.refl _ _⟩)
  simp only [act_norm]
  refine wpAnyE_take 6 (v := .pointer (some ⟨r, 1, none⟩)) rfl (by kernel_rfl) (by kernel_rfl) (by kernel_rfl) (fun _ _ _ h => h) hst (EffB.run rfl rfl (fun wd hS => ?_)) (.inr (EffB.run rfl rfl (fun wd hS => ?_))) ?_
  · (go_wp2; exact ⟨rfl, Below.refl _ _⟩)
  · (go_wp2; exact ⟨rfl, Below.refl _ _⟩)
  simp only [act_norm]
  refine wpAnyE_take 7 (v := .int .i64 first) rfl (by kernel_rfl) (by kernel_rfl) (by kernel_rfl) (fun _ _ _ h => h) hst (EffB.run rfl rfl (fun wd hS => ?_)) (.inl (by kernel_rfl)) ?_
  · (have c2 : wd.cell? ⟨r, 1, none⟩ = some (.int .i64 first) := by rw [cell_of_row _ _ _ _ _ _ (hS.1.1.row)]; rfl); go_wp2; exact ⟨rfl, Below.refl _ _⟩
  simp only [act_norm]
  refine wpAnyE_take 8 (v := .slice (some ⟨g, first, none⟩) (n - first) (cap - first)) rfl (by kernel_rfl) (by kernel_rfl) (by kernel_rfl) (fun _ _ _ h => h) hst (EffB.run rfl rfl (fun wd hS => ?_)) (.inr (EffB.run rfl rfl (fun wd hS => ?_))) ?_
  · (go_wp2; exact ⟨rfl, Below.refl _ _⟩)
  · (go_wp2; exact ⟨rfl, Below.refl _ _⟩)
  simp only [act_norm]
  refine wpAnyE_take 9 rfl (by kernel_rfl) (by kernel_rfl) (by kernel_rfl) (fun _ _ _ h => h) hst (EffB.pure rfl (fun _ => rfl)) (.inr (EffB.pure rfl (fun _ => rfl))) ?_
  simp only [act_norm]
  refine wpAnyE_take 10 (v := .pointer (some ⟨r, 0, none⟩)) rfl (by kernel_rfl) (by kernel_rfl) (by kernel_rfl) (fun _ _ _ h => h) hst (EffB.run rfl rfl (fun wd hS => ?_)) (.inr (EffB.run rfl rfl (fun wd hS => ?_))) ?_
  · (go_wp2; exact ⟨rfl, Below.refl _ _⟩)
  · (go_wp2; exact ⟨rfl, Below.refl _ _⟩)
  simp only [act_norm]
  refine wpAnyE_take 11 (v := .pointer (some ⟨r, 2, none⟩)) rfl (by kernel_rfl) (by kernel_rfl) (by kernel_rfl) (fun _ _ _ h => h) hst (EffB.run rfl rfl (fun wd hS => ?_)) (.inr (EffB.run rfl rfl (fun wd hS => ?_))) ?_
  · (go_wp2; exact ⟨rfl, Below.refl _ _⟩)
  · (go_wp2; exact ⟨rfl, Below.refl _ _⟩)
  simp only [act_norm]
  refine wpAnyE_take 12 (v := .slice (some ⟨g, 0, none⟩) n cap) rfl (by kernel_rfl) (by kernel_rfl) (by kernel_rfl) (fun _ _ _ h => h) hst (EffB.run rfl rfl (fun wd hS => ?_)) (.inl (by kernel_rfl)) ?_
  · (have c2 : wd.cell? ⟨r, 2, none⟩ = some (.slice (some ⟨g, 0, none⟩) n cap) := by rw [cell_of_row _ _ _ _ _ _ (hS.1.1.row)]; rfl); go_wp2; exact ⟨rfl, Below.refl _ _⟩
  simp only [act_norm]
  refine wpAnyE_take 13 rfl (by kernel_rfl) (by kernel_rfl) (by kernel_rfl) (fun _ _ _ h => h) hst (EffB.pure rfl (fun _ => rfl)) (.inr (EffB.pure rfl (fun _ => rfl))) ?_
  simp only [act_norm]
  refine wpAnyE_take 14 (v := .pointer (some ⟨r, 0, none⟩)) rfl (by kernel_rfl) (by kernel_rfl) (by kernel_rfl) (fun _ _ _ h => h) hst (EffB.run rfl rfl (fun wd hS => ?_)) (.inr (EffB.run rfl rfl (fun wd hS => ?_))) ?_
  · (go_wp2; exact ⟨rfl, Below.refl _ _⟩)
  · (go_wp2; exact ⟨rfl, Below.refl _ _⟩)
  simp only [act_norm]
  refine wpAnyE_take 15 (v := .pointer (some ⟨r, 1, none⟩)) rfl (by kernel_rfl) (by kernel_rfl) (by kernel_rfl) (fun _ _ _ h => h) hst (EffB.run rfl rfl (fun wd hS => ?_)) (.inr (EffB.run rfl rfl (fun wd hS => ?_))) ?_
  · (go_wp2; exact ⟨rfl, Below.refl _ _⟩)
  · (go_wp2; exact ⟨rfl, Below.refl _ _⟩)
  simp only [act_norm]
  refine wpAnyE_take 16 (v := .int .i64 first) rfl (by kernel_rfl) (by kernel_rfl) (by kernel_rfl) (fun _ _ _ h => h) hst (EffB.run rfl rfl (fun wd hS => ?_)) (.inl (by kernel_rfl)) ?_
  · (have c2 : wd.cell? ⟨r, 1, none⟩ = some (.int .i64 first) := by rw [cell_of_row _ _ _ _ _ _ (hS.1.1.row)]; rfl); go_wp2; exact ⟨rfl, Below.refl _ _⟩
  simp only [act_norm]
  refine wpAnyE_take 17 (v := .slice (some ⟨g, 0, none⟩) first cap) rfl (by kernel_rfl) (by kernel_rfl) (by kernel_rfl) (fun _ _ _ h => h) hst (EffB.run rfl rfl (fun wd hS => ?_)) (.inr (EffB.run rfl rfl (fun wd hS => ?_))) ?_
  · (go_wp2; exact ⟨rfl, Below.refl _ _⟩)
  · (go_wp2; exact ⟨rfl, Below.refl _ _⟩)
  simp only [act_norm]
  refine wpAnyE_one 18 rfl (by kernel_rfl) rfl (fun wd hS => ?_)
  have hso := Owns.src hS.1.1.owns first (by omega)
  have hst2 := stab_and (stab_and (stab_and hst (stab_heap wd.heap.size (.cells #[.slice (some ⟨g, first, none⟩) (n - first) (cap - first), .slice (some ⟨g, 0, none⟩) first cap] 77 (0, 0)))) (stab_src (s := .slice (some ⟨g, first, none⟩) (n - first) (cap - first)) (n := n - first) (sz := 1) (xs := xs.drop first))) (stab_src (s := .slice (some ⟨g, 0, none⟩) first cap) (n := first) (sz := 1) (xs := xs.take first))
  have X1 : Hid (((((RingAt 227 1 (wd.alloc (.cells #[.slice (some ⟨g, first, none⟩) (n - first) (cap - first), .slice (some ⟨g, 0, none⟩) first cap] 77)) B r (.slice (some ⟨g, 0, none⟩) n cap) room first n xs ∧ (wd.alloc (.cells #[.slice (some ⟨g, first, none⟩) (n - first) (cap - first), .slice (some ⟨g, 0, none⟩) first cap] 77)).heap[w.heap.size]? = some (.cells #[.slice none 0 0] 77 (0, 0))) ∧ Below w.heap.size w (wd.alloc (.cells #[.slice (some ⟨g, first, none⟩) (n - first) (cap - first), .slice (some ⟨g, 0, none⟩) first cap] 77)))
    ∧ (wd.alloc (.cells #[.slice (some ⟨g, first, none⟩) (n - first) (cap - first), .slice (some ⟨g, 0, none⟩) first cap] 77)).heap[wd.heap.size]? = some (.cells #[.slice (some ⟨g, first, none⟩) (n - first) (cap - first), .slice (some ⟨g, 0, none⟩) first cap] 77 (0, 0)))
    ∧ Src (wd.alloc (.cells #[.slice (some ⟨g, first, none⟩) (n - first) (cap - first), .slice (some ⟨g, 0, none⟩) first cap] 77)) (.slice (some ⟨g, first, none⟩) (n - first) (cap - first)) (n - first) 1 (xs.drop first))
    ∧ Src (wd.alloc (.cells #[.slice (some ⟨g, first, none⟩) (n - first) (cap - first), .slice (some ⟨g, 0, none⟩) first cap] 77)) (.slice (some ⟨g, 0, none⟩) first cap) first 1 (xs.take first)) := ⟨⟨⟨hst _ _ hS (below1 _ _), heap_alloc_at _ _ _ rfl⟩, hso.1.below (below1 _ _)⟩, hso.2.below (below1 _ _)⟩
  clear hS hso
  go_wp2
  refine ⟨_, X1.out, hst2, fun _ h => h.1.1.1, ?_⟩
  obtain ⟨X, hX⟩ : ∃ X, wd.heap.size = X := ⟨_, rfl⟩
  rw [hX] at hst2 ⊢
  clear X1 hst hX
  try simp only [act_norm]
  refine wpAnyE_one 19 rfl (by kernel_rfl) rfl (fun wd2 hS => ?_)
  go_wp2_with fail
  (with_reducible refine (concatI X _ _ (n - first) first (xs.drop first) (xs.take first) (by omega) (fun u hu => H1.out u (List.mem_of_mem_drop hu)) (fun u hu => H1.out u (List.mem_of_mem_take hu)) wd2 hS.1.1.2 hS.1.2 hS.2).mono ?_)
  rintro e w5 ⟨u, rfl, hO, hb5⟩
  rw [Nat.sub_add_cancel (by omega)] at hO
  have hO2 : Owns w5 (w.heap.size + 1) 1 u n (rot first xs) := hO.mono (lt_of_heap hS.1.1.1.1.2)
  obtain ⟨pu, cu, rfl, _⟩ := hO.sl
  have hst3 := stab_and hst2 (stab_owns (B := w.heap.size + 1) (sz := 1) (v := .slice pu n cu) (n := n) (xs := rot first xs))
  refine ⟨_, ⟨hst2 _ _ hS hb5, hO2⟩, hst3, (by first | exact fun _ h => h.1 | exact .inr fun _ h => h.1), ?_⟩
  clear hS hO hO2 hb5 hst2
  try simp only [act_norm]
  refine wpAnyE_one 20 rfl (by kernel_rfl) rfl (fun wd3 hS => ?_)
  have k1 := hS.1.1.1.1.1.2
  have c1 : wd3.cell? ⟨w.heap.size, 0, none⟩ = some (.slice none 0 0) := by rw [cell_of_row _ _ _ _ _ _ k1]; rfl
  have g1 := frozen_of_row _ _ 0 _ _ k1
  have k2 : (wd3.setCell ⟨w.heap.size, 0, none⟩ (.slice pu n cu)).heap[w.heap.size]? = some (.cells #[.slice pu n cu] 77 (0, 0)) := by rw [heap_setCell_same _ _ _ _ _ _ k1]; rfl
  have o2 : Owns (wd3.setCell ⟨w.heap.size, 0, none⟩ (.slice pu n cu)) (w.heap.size + 1) 1 (.slice pu n cu) n (rot first xs) := hS.2.setOther _ (fun e => by have := (hS.2.lt _ e).1; omega)
  have b2 : Below w.heap.size w (wd3.setCell ⟨w.heap.size, 0, none⟩ (.slice pu n cu)) := hS.1.1.1.1.2.setCell (Nat.le_refl _) _
  have X2 := Lib.hid (And.intro (And.intro k2 o2) b2)
  clear hS k1 k2 o2 b2 hst3
  go_wp2
  refine ⟨_, X2.out, stab_and (stab_and (stab_heap _ _) stab_owns) (stab_below (Nat.le_refl _)), ?_⟩
  try simp only [act_norm]
  clear X2 c1 g1
  refine wpAnyE_done (by kernel_rfl) (fun wd4 hS => ?_) _
  go_wp2
  go_ret
  exact ⟨w.heap.size, _, rfl, Nat.le_refl _, hS.1.1, hS.1.2, hS.2⟩

set_option maxHeartbeats 2000000 in
set_option maxRecDepth 100000 in
theorem ringI_all_zero {w : World} {B r : Nat} {room first : Nat} (h : RingAt 227 1 w B r (.slice none 0 0) room first 0 []) (hf : first = 0) :
    Calls Try.prog 165 #[.pointer (some ⟨r, 0, none⟩)] w (AllOf 187 77 w 0 1 []) := by
  subst hf
  have H := Lib.hid h
  have hst := stab_and (stab_and (stab_ring (TR := 227) (sz := 1) (B := B) (r := r) (v := .slice none 0 0) (room := room) (first := 0) (n := 0) (xs := [])) (stab_heap w.heap.size (.cells #[.slice none 0 0] 77 (0, 0)))) (stab_below (B := w.heap.size) (w0 := w) (Nat.le_refl _))
  clear h
  go_enter Try.func165, Try.ntmps165
  go_wp2
  refine wp_region_E mixed [20] hst ⟨⟨(H.out.below (below1 _ _)).same (Nat.le_refl _) rfl (fun _ _ => rfl), heap_alloc_at _ _ _ rfl⟩, below_drew (below1 _ _)⟩ ?_
  refine wpAnyE_take 0 rfl (by kernel_rfl) (by kernel_rfl) (by kernel_rfl) (fun _ _ _ h => h) hst (EffB.pure rfl (fun _ => rfl)) (.inr (EffB.pure rfl (fun _ => rfl))) ?_
  simp only [act_norm]
  refine wpAnyE_take 1 (v := .pointer (some ⟨r, 0, none⟩)) rfl (by kernel_rfl) (by kernel_rfl) (by kernel_rfl) (fun _ _ _ h => h) hst (EffB.run rfl rfl (fun wd hS => ?_)) (.inr (EffB.run rfl rfl (fun wd hS => ?_))) ?_
  · (go_wp2; exact ⟨rfl, Below.refl _ _⟩)
  · (go_wp2; exact ⟨rfl, Below.refl _ _⟩)
  simp only [act_norm]
  refine wpAnyE_take 2 (v := .pointer (some ⟨r, 2, none⟩)) rfl (by kernel_rfl) (by kernel_rfl) (by kernel_rfl) (fun _ _ _ h => h) hst (EffB.run rfl rfl (fun wd hS => ?_)) (.inr (EffB.run rfl rfl (fun wd hS => ?_))) ?_
  · (go_wp2; exact ⟨rfl, Below.refl _ _⟩)
  · (go_wp2; exact ⟨rfl, Below.refl _ _⟩)
  simp only [act_norm]
  refine wpAnyE_take 3 (v := .slice none 0 0) rfl (by kernel_rfl) (by kernel_rfl) (by kernel_rfl) (fun _ _ _ h => h) hst (EffB.run rfl rfl (fun wd hS => ?_)) (.inl (by kernel_rfl)) ?_
  · (have c2 : wd.cell? ⟨r, 2, none⟩ = some (.slice none 0 0) := by rw [cell_of_row _ _ _ _ _ _ (hS.1.1.row)]; rfl); go_wp2; exact ⟨rfl, Below.refl _ _⟩
  simp only [act_norm]
  refine wpAnyE_take 4 rfl (by kernel_rfl) (by kernel_rfl) (by kernel_rfl) (fun _ _ _ h => h) hst (EffB.pure rfl (fun _ => rfl)) (.inr (EffB.pure rfl (fun _ => rfl))) ?_
  simp only [act_norm]
  refine wpAnyE_take 5 (v := .pointer (some ⟨r, 0, none⟩)) rfl (by kernel_rfl) (by kernel_rfl) (by kernel_rfl) (fun _ _ _ h => h) hst (EffB.run rfl rfl (fun wd hS => ?_)) (.inr (EffB.run rfl rfl (fun wd hS => ?_))) ?_
  · (go_wp2; exact ⟨rfl, Below.refl _ _⟩)
  · (go_wp2; exact ⟨rfl, Below.refl _ _⟩)
  simp only [act_norm]
  refine wpAnyE_take 6 (v := .pointer (some ⟨r, 1, none⟩)) rfl (by kernel_rfl) (by kernel_rfl) (by kernel_rfl) (fun _ _ _ h => h) hst (EffB.run rfl rfl (fun wd hS => ?_)) (.inr (EffB.run rfl rfl (fun wd hS => ?_))) ?_
  · (go_wp2; exact ⟨rfl, Below.refl _ _⟩)
  · (go_wp2; exact ⟨rfl, Below.refl _ _⟩)
  simp only [act_norm]
  refine wpAnyE_take 7 (v := .int .i64 0) rfl (by kernel_rfl) (by kernel_rfl) (by kernel_rfl) (fun _ _ _ h => h) hst (EffB.run rfl rfl (fun wd hS => ?_)) (.inl (by kernel_rfl)) ?_
  · (have c2 : wd.cell? ⟨r, 1, none⟩ = some (.int .i64 0) := by rw [cell_of_row _ _ _ _ _ _ (hS.1.1.row)]; rfl); go_wp2; exact ⟨rfl, Below.refl _ _⟩
  simp only [act_norm]
  refine wpAnyE_take 8 (v := .slice none 0 0) rfl (by kernel_rfl) (by kernel_rfl) (by kernel_rfl) (fun _ _ _ h => h) hst (EffB.run rfl rfl (fun wd hS => ?_)) (.inr (EffB.run rfl rfl (fun wd hS => ?_))) ?_
  · (go_wp2; exact ⟨rfl, Below.refl _ _⟩)
  · (go_wp2; exact ⟨rfl, Below.refl _ _⟩)
  simp only [act_norm]
  refine wpAnyE_take 9 rfl (by kernel_rfl) (by kernel_rfl) (by kernel_rfl) (fun _ _ _ h => h) hst (EffB.pure rfl (fun _ => rfl)) (.inr (EffB.pure rfl (fun _ => rfl))) ?_
  simp only [act_norm]
  refine wpAnyE_take 10 (v := .pointer (some ⟨r, 0, none⟩)) rfl (by kernel_rfl) (by kernel_rfl) (by kernel_rfl) (fun _ _ _ h => h) hst (EffB.run rfl rfl (fun wd hS => ?_)) (.inr (EffB.run rfl rfl (fun wd hS => ?_))) ?_
  · (go_wp2; exact ⟨rfl, Below.refl _ _⟩)
  · (go_wp2; exact ⟨rfl, Below.refl _ _⟩)
  simp only [act_norm]
  refine wpAnyE_take 11 (v := .pointer (some ⟨r, 2, none⟩)) rfl (by kernel_rfl) (by kernel_rfl) (by kernel_rfl) (fun _ _ _ h => h) hst (EffB.run rfl rfl (fun wd hS => ?_)) (.inr (EffB.run rfl rfl (fun wd hS => ?_))) ?_
  · (go_wp2; exact ⟨rfl, Below.refl _ _⟩)
  · (go_wp2; exact ⟨rfl, Below.refl _ _⟩)
  simp only [act_norm]
  refine wpAnyE_take 12 (v := .slice none 0 0) rfl (by kernel_rfl) (by kernel_rfl) (by kernel_rfl) (fun _ _ _ h => h) hst (EffB.run rfl rfl (fun wd hS => ?_)) (.inl (by kernel_rfl)) ?_
  · (have c2 : wd.cell? ⟨r, 2, none⟩ = some (.slice none 0 0) := by rw [cell_of_row _ _ _ _ _ _ (hS.1.1.row)]; rfl); go_wp2; exact ⟨rfl, Below.refl _ _⟩
  simp only [act_norm]
  refine wpAnyE_take 13 rfl (by kernel_rfl) (by kernel_rfl) (by kernel_rfl) (fun _ _ _ h => h) hst (EffB.pure rfl (fun _ => rfl)) (.inr (EffB.pure rfl (fun _ => rfl))) ?_
  simp only [act_norm]
  refine wpAnyE_take 14 (v := .pointer (some ⟨r, 0, none⟩)) rfl (by kernel_rfl) (by kernel_rfl) (by kernel_rfl) (fun _ _ _ h => h) hst (EffB.run rfl rfl (fun wd hS => ?_)) (.inr (EffB.run rfl rfl (fun wd hS => ?_))) ?_
  · (go_wp2; exact ⟨rfl, Below.refl _ _⟩)
  · (go_wp2; exact ⟨rfl, Below.refl _ _⟩)
  simp only [act_norm]
  refine wpAnyE_take 15 (v := .pointer (some ⟨r, 1, none⟩)) rfl (by kernel_rfl) (by kernel_rfl) (by kernel_rfl) (fun _ _ _ h => h) hst (EffB.run rfl rfl (fun wd hS => ?_)) (.inr (EffB.run rfl rfl (fun wd hS => ?_))) ?_
  · (go_wp2; exact ⟨rfl, Below.refl _ _⟩)
  · (go_wp2; exact ⟨rfl, Below.refl _ _⟩)
  simp only [act_norm]
  refine wpAnyE_take 16 (v := .int .i64 0) rfl (by kernel_rfl) (by kernel_rfl) (by kernel_rfl) (fun _ _ _ h => h) hst (EffB.run rfl rfl (fun wd hS => ?_)) (.inl (by kernel_rfl)) ?_
  · (have c2 : wd.cell? ⟨r, 1, none⟩ = some (.int .i64 0) := by rw [cell_of_row _ _ _ _ _ _ (hS.1.1.row)]; rfl); go_wp2; exact ⟨rfl, Below.refl _ _⟩
  simp only [act_norm]
  refine wpAnyE_take 17 (v := .slice none 0 0) rfl (by kernel_rfl) (by kernel_rfl) (by kernel_rfl) (fun _ _ _ h => h) hst (EffB.run rfl rfl (fun wd hS => ?_)) (.inr (EffB.run rfl rfl (fun wd hS => ?_))) ?_
  · (go_wp2; exact ⟨rfl, Below.refl _ _⟩)
  · (go_wp2; exact ⟨rfl, Below.refl _ _⟩)
  simp only [act_norm]
  refine wpAnyE_one 18 rfl (by kernel_rfl) rfl (fun wd hS => ?_)
  have hst2 := stab_and hst (stab_heap wd.heap.size (.cells #[.slice none 0 0, .slice none 0 0] 77 (0, 0)))
  have x1 := hst _ _ hS (below1 wd (.cells #[.slice none 0 0, .slice none 0 0] 77))
  have X1 := Lib.hid (And.intro x1 (heap_alloc_at wd (.cells #[.slice none 0 0, .slice none 0 0] 77) wd.heap.size rfl))
  clear hS x1
  go_wp2
  refine ⟨_, X1.out, hst2, fun _ h => h.1, ?_⟩
  obtain ⟨X, hX⟩ : ∃ X, wd.heap.size = X := ⟨_, rfl⟩
  rw [hX] at hst2 ⊢
  clear X1 hst hX
  try simp only [act_norm]
  refine wpAnyE_one 19 rfl (by kernel_rfl) rfl (fun wd2 hS => ?_)
  go_wp2_with fail
  (with_reducible refine (concatI X _ _ 0 0 [] [] (by omega) (fun u hu => by simp at hu) (fun u hu => by simp at hu) wd2 hS.2 (src_nil _ _) (src_nil _ _)).mono ?_)
  rintro e w5 ⟨u, rfl, hO, hb5⟩
  have hO2 : Owns w5 (w.heap.size + 1) 1 u 0 [] := hO.mono (lt_of_heap hS.1.1.2)
  obtain ⟨pu, cu, rfl, _⟩ := hO2.sl
  have hst3 := stab_and hst2 (stab_owns (B := w.heap.size + 1) (sz := 1) (v := .slice pu 0 cu) (n := 0) (xs := []))
  refine ⟨_, ⟨hst2 _ _ hS hb5, hO2⟩, hst3, (by first | exact fun _ h => h.1 | exact .inr fun _ h => h.1), ?_⟩
  clear hS hO hO2 hb5 hst2
  try simp only [act_norm]
  refine wpAnyE_one 20 rfl (by kernel_rfl) rfl (fun wd3 hS => ?_)
  have k1 := hS.1.1.1.2
  have c1 : wd3.cell? ⟨w.heap.size, 0, none⟩ = some (.slice none 0 0) := by rw [cell_of_row _ _ _ _ _ _ k1]; rfl
  have g1 := frozen_of_row _ _ 0 _ _ k1
  have k2 : (wd3.setCell ⟨w.heap.size, 0, none⟩ (.slice pu 0 cu)).heap[w.heap.size]? = some (.cells #[.slice pu 0 cu] 77 (0, 0)) := by rw [heap_setCell_same _ _ _ _ _ _ k1]; rfl
  have o2 : Owns (wd3.setCell ⟨w.heap.size, 0, none⟩ (.slice pu 0 cu)) (w.heap.size + 1) 1 (.slice pu 0 cu) 0 [] := hS.2.setOther _ (fun e => by have := (hS.2.lt _ e).1; omega)
  have b2 : Below w.heap.size w (wd3.setCell ⟨w.heap.size, 0, none⟩ (.slice pu 0 cu)) := hS.1.1.2.setCell (Nat.le_refl _) _
  have X2 := Lib.hid (And.intro (And.intro k2 o2) b2)
  clear hS k1 k2 o2 b2 hst3
  go_wp2
  refine ⟨_, X2.out, stab_and (stab_and (stab_heap _ _) stab_owns) (stab_below (Nat.le_refl _)), ?_⟩
  try simp only [act_norm]
  clear X2 c1 g1
  refine wpAnyE_done (by kernel_rfl) (fun wd4 hS => ?_) _
  go_wp2
  go_ret
  exact ⟨w.heap.size, _, rfl, Nat.le_refl _, hS.1.1, hS.1.2, hS.2⟩

/-- All things of a ring. -/
theorem ringI_all {w : World} {B r : Nat} {v : Value} {room first n : Nat} {xs : List Value} (h : RingAt 227 1 w B r v room first n xs) (hn : n ≤ 4096) (hf : first < n ∨ first = 0) (h1 : ∀ u ∈ xs, u.oneCell' = true) :
    Calls Try.prog 165 #[.pointer (some ⟨r, 0, none⟩)] w (AllOf 187 77 w n 1 (rot first xs)) := by
  by_cases h0 : n = 0
  · subst h0
    obtain rfl : first = 0 := by omega
    obtain rfl := h.void rfl
    obtain rfl : xs = [] := List.eq_nil_of_length_eq_zero (by simpa using h.owns.1)
    exact ringI_all_zero h rfl
  · obtain ⟨g, cap, rfl, _, _, _, hc⟩ := h.slice (by omega)
    exact ringI_all_some h hn (by omega) hc h1
end Go.Proofs.Ytapgcbjlgekpeaa

/- Layer 7: a ring of ints as a list: the loop over all things. -/
namespace Go.Proofs.Ytapgcbjlgekpeaa
open Go.ChangeShapes Go.WideShapes Go.ChangeAt Go.RowKit Go.Shelf

attribute [local go_sem] Oper.semAt_some

/-- What has come when k rounds are over. -/
def upto {α : Type} (f : Nat → α) (k : Nat) : List α := (List.range k).map f
theorem upto_succ {α : Type} (f : Nat → α) (k : Nat) : upto f (k + 1) = upto f k ++ [f k] := by simp [upto, List.range_succ]
theorem upto_length {α : Type} (f : Nat → α) (k : Nat) : (upto f k).length = k := by simp [upto]
theorem upto_all {α : Type} (zs : List α) (d : α) : upto (fun j => zs[j]?.getD d) zs.length = zs := by
  apply List.ext_getElem
  · simp [upto]
  · intro i h1 h2
    simp [upto, h2]
theorem upto_take {α : Type} (zs : List α) (d : α) {k : Nat} (hk : k ≤ zs.length) : upto (fun j => zs[j]?.getD d) k = zs.take k := by
  apply List.ext_getElem
  · simp [upto, hk]
  · intro i h1 h2
    have : i < zs.length := by simp [upto] at h1; omega
    simp [upto, this]

/-- Block b lies as it lay. -/
def KeepsAt (b : Nat) (A B : World) : Prop := B.heap[b]? = A.heap[b]?
theorem KeepsAt.trans {b : Nat} {A B C : World} (h : KeepsAt b A B) (k : KeepsAt b B C) : KeepsAt b A C := Eq.trans k h
theorem KeepsAt.cell {b off : Nat} {A B : World} (h : KeepsAt b A B) : B.cell? ⟨b, off, none⟩ = A.cell? ⟨b, off, none⟩ := World.cell?_of_block h
theorem KeepsAt.put {b l m : Nat} {W : World} {o' : Obj} (hb : b < m) (hl : m ≤ l) : KeepsAt b W (W.putObj l o') := by
  unfold KeepsAt World.putObj
  simp
  rw [Array.getElem?_setIfInBounds_ne (by omega)]

/-- 'out = append(out, x)': the row may lie elsewhere than the box. -/
theorem appended2 {W w1 : World} {n₀ β B : Nat} {t e : TypeId} {size : Nat} {v v' : Value} {k m : Nat} {xs ys : List Value} {tmp : Obj}
    (hv : Boxed W B t v) (hte : t ≠ e) (hrow : W.ownsRow β e size v k xs) (hβ : β ≤ W.heap.size) (hn : n₀ ≤ β) (hB : n₀ ≤ B)
    (hown' : w1.ownsRow β e size v' m ys) (hgrow : (W.alloc tmp).grownBy w1 v.ownBlock) :
    Boxed w1 B t v ∧ Boxed (w1.setCell ⟨B, 0, none⟩ v') B t v' ∧ (w1.setCell ⟨B, 0, none⟩ v').ownsRow β e size v' m ys ∧ KeepsOthers W (w1.setCell ⟨B, 0, none⟩ v') ∧ Below n₀ W (w1.setCell ⟨B, 0, none⟩ v') ∧
      ∀ b, b < β → b ≠ B → KeepsAt b W (w1.setCell ⟨B, 0, none⟩ v') := by
  have hv1 : Boxed w1 B t v := (hv.alloc tmp).kept hgrow (hv.not_row hte hrow)
  have hbl : ∀ j, v.ownBlock = some j → β ≤ j := by
    intro j ej
    rcases hrow.2 with ⟨rfl, _⟩ | ⟨g, cap, cur, rfl, hb, _, _⟩
    · simp [Value.ownBlock] at ej
    · obtain rfl : g = j := by simpa [Value.ownBlock] using ej
      exact hb
  refine ⟨hv1, hv1.set v', hown'.kept (grownBy_setCell' w1 B v') (.inr (hv1.not_row hte hown').symm), ?_, ?_, ?_⟩
  · refine ((KeepsOthers.alloc W tmp).trans (KeepsOthers.of_grownBy hgrow fun j o ej hj => ?_)).trans (KeepsOthers.setCell _ _ _)
    rcases (hrow.alloc tmp).2 with ⟨rfl, _⟩ | ⟨g, cap, cur, rfl, _, hgb, _⟩
    · simp [Value.ownBlock] at ej
    · obtain rfl : g = j := by simpa [Value.ownBlock] using ej
      rw [hgb] at hj; cases hj; rfl
  · exact (((Below.refl n₀ W).alloc (by omega) tmp).grown hgrow (by simp; omega) fun j ej => by have := hbl j ej; omega).setCell (p := ⟨B, 0, none⟩) hB v'
  · intro b hb hne
    have h1 : (W.alloc tmp).heap[b]? = W.heap[b]? := heap_alloc_past _ _ _ (by omega)
    have h2 := hgrow.block b (by simp; omega) (fun e => by have := hbl b e.symm; omega)
    have h3 : (w1.setCell ⟨B, 0, none⟩ v').heap[b]? = w1.heap[b]? := Below.heap_setCell _ _ _ _ hne
    exact (h3.trans h2).trans h1

set_option maxRecDepth 100000 in
set_option maxHeartbeats 2000000 in
theorem ringI_all1_in (F : Fence) (n : Nat) (h7 : F.fn 187) (hro : F.round = none) (hn : 1 ≤ n) (l Bs b : Nat) (p : Option Addr) (cap : Nat) (zs : List Int) (hlen : zs.length ≤ 9223372036854775807) (J Jx : List Int → World → Prop)
    (hY : ∀ pre x W, J pre W → pre.length < zs.length → YieldAt F (n - 1) Try.prog l #[.int .i64 x] W fun e W' =>
      (e = .returned (.bool true) ∧ J (pre ++ [x]) W' ∧ KeepsAt b W W') ∨ (e = .returned (.bool false) ∧ Jx (pre ++ [x]) W'))
    (W : World) (hBs : W.cell? ⟨Bs, 0, none⟩ = some (.slice p zs.length cap)) (hp : zs.length = 0 ∨ ∃ off, p = some ⟨b, off, none⟩ ∧ ∀ j, j < zs.length → W.cell? ⟨b, off + j, none⟩ = some (.int .i64 (zs[j]?.getD 0))) (h0 : J [] W) :
    CallsIn F n Try.prog 187 #[.func (.yield l) #[] #[], .pointer (some ⟨Bs, 0, none⟩)] W fun e W' => (∃ v, e = .returned v) ∧
      ((∃ ys, ys = upto (fun j => zs[j]?.getD 0) zs.length ∧ J ys W') ∨ (∃ pre, (∃ k, k ≤ zs.length ∧ pre = upto (fun j => zs[j]?.getD 0) k) ∧ Jx pre W')) := by
  obtain ⟨len, elen⟩ : ∃ n, n = zs.length := ⟨_, rfl⟩
  rw [← elen] at hlen hBs hp ⊢
  simp only [← elen] at hY
  have HP := Lib.hid hp
  clear hp elen
  refine callsIn_of_wp Try.func187 rfl h7 ?_ hro
  simp only [Try.ntmps187, List.size_toArray, List.length_cons, List.length_nil, Nat.reduceAdd, Nat.reduceSub, Array.replicate_succ, Array.replicate_zero, List.push_toArray, List.append_toArray, List.nil_append, List.cons_append]
  gi_wp2
  gi_loopw [7] (fun i wr => ∃ k : Nat, k ≤ len ∧ i = .int .i64 k ∧ J (upto (fun j => zs[j]?.getD 0) k) wr ∧ KeepsAt b W wr)
    (fun i _ => len - (intOf i).toNat)
  case atStart => exact ⟨0, Nat.zero_le _, rfl, h0, rfl⟩
  case round =>
    obtain ⟨k, hk, rfl, hJs, hnx⟩ := hrel
    by_cases hlt : k < len
    · obtain ⟨off, rfl, hc⟩ := HP.out.resolve_left (by omega)
      have hcx' : wr.cell? ⟨b, off + k, none⟩ = some (.int .i64 (zs[k]?.getD 0)) := hnx.cell.trans (hc k hlt)
      clear hc
      obtain ⟨fn, tmps, assign, body, hy, hR⟩ := hY _ (zs[k]?.getD 0) wr hJs (by rw [upto_length]; exact hlt)
      gi_wp2
      refine hR.mono ?_
      rintro e W3 (⟨rfl, hJ3, hk3⟩ | ⟨rfl, hJx3⟩)
      · gi_wp2
        go_roundw
        case rel => exact ⟨k + 1, by omega, by simp, by rw [upto_succ]; exact hJ3, hnx.trans hk3⟩
        case measure => simp [intOf]; omega
      · gi_wp2
        refine bodyPost_ret (results_none rfl _ _ _) rfl ?_
        exact ⟨⟨_, rfl⟩, .inr ⟨_, ⟨k + 1, by omega, (upto_succ _ _).symm⟩, hJx3⟩⟩
    · obtain rfl : k = len := by omega
      gi_wp2
      go_end0
      exact ⟨⟨_, rfl⟩, .inl ⟨_, rfl, hJs⟩⟩

theorem ringI_all_stops (F : Fence) (n : Nat) (h7 : F.fn 187) (hro : F.round = none) (hn : 1 ≤ n) (Bs b : Nat) (p : Option Addr) (cap : Nat) (zs : List Int) (hlen : zs.length ≤ 9223372036854775807) (w : World) (hBs : Bs < w.heap.size) (hb : b < w.heap.size)
    (hc : w.cell? ⟨Bs, 0, none⟩ = some (.slice p zs.length cap)) (hp : zs.length = 0 ∨ ∃ off, p = some ⟨b, off, none⟩ ∧ ∀ j, j < zs.length → w.cell? ⟨b, off + j, none⟩ = some (.int .i64 (zs[j]?.getD 0))) :
    SeqStopsK F n Try.prog 187 #[.pointer (some ⟨Bs, 0, none⟩)] (fun x : Int => #[Value.int .i64 x]) (KeepsAt b) (fun ys => ys = zs) (fun pre => pre <+: zs) zs.length w := fun l J Jx W hW _ _ hY h0 => by
  have hc' := (hW.cell (p := ⟨Bs, 0, none⟩) hBs).trans hc
  have hp' : zs.length = 0 ∨ ∃ off, p = some ⟨b, off, none⟩ ∧ ∀ j, j < zs.length → W.cell? ⟨b, off + j, none⟩ = some (.int .i64 (zs[j]?.getD 0)) := by
    rcases hp with hp | ⟨off, h1, h3⟩
    · exact .inl hp
    · exact .inr ⟨off, h1, fun j hj => (hW.cell (p := ⟨b, off + j, none⟩) hb).trans (h3 j hj)⟩
  refine (ringI_all1_in F n h7 hro hn l Bs b p cap zs hlen J Jx hY W hc' hp' h0).mono ?_
  rintro e W' ⟨he, ⟨ys, rfl, hj⟩ | ⟨pre, ⟨k, hk, rfl⟩, hj⟩⟩
  · exact ⟨he, .inl ⟨_, upto_all zs 0, hj⟩⟩
  · exact ⟨he, .inr ⟨_, by rw [upto_take zs 0 hk]; exact List.take_prefix _ _, hj⟩⟩

set_option maxRecDepth 100000 in
set_option maxHeartbeats 2000000 in
theorem ringI_list_of {w : World} {q : Option Addr} (zs : List Int) (hz : zs.length ≤ 4096)
    (hall : ∀ w', Below w.heap.size w w' → Calls Try.prog 165 #[.pointer q] w' (AllOf 187 77 w' zs.length 1 (intVals zs))) :
    Calls Try.prog 129 #[.pointer q] w fun e w' => ∃ v, e = .returned v ∧ Owns w' w.heap.size 1 v zs.length (intVals zs) ∧ Below w.heap.size w w' := by
  refine (callsIn_wide (n := 3)).1 ?_
  have hro : Fence.wide.round = none := rfl
  have h1 : 1 ≤ 3 := by omega
  obtain ⟨i0, hi, hz0, hz1, hz2⟩ := info_parts intInfo
  have HALL := Lib.hid (hall _ (below1 w (.cells #[.slice none 0 0] 77)))
  clear hall
  refine callsIn_of_wp_marks Try.func129 rfl trivial ?_ hro
  simp only [Try.ntmps129, List.size_toArray, List.length_cons, List.length_nil, Nat.reduceAdd, Nat.reduceSub, Array.replicate_succ, Array.replicate_zero, List.push_toArray, List.append_toArray, List.nil_append, List.cons_append]
  gi_wp2_with (refine ⟨trivial, ?_⟩; gi_at_call 165; refine (callsIn_wide.2 HALL.out).mono ?_; rintro e w2 ⟨Bn, u, rfl, hBn, hk, hO, hb2⟩)
  have bO : Boxed w2 w.heap.size 77 (.slice none 0 0) := (hb2.block _ (by simp)).trans (heap_alloc_at _ _ _ rfl)
  have hB0 : Below w.heap.size w w2 := (below1 w _).trans (hb2.mono (by simp))
  have hBnw : Bn < w2.heap.size := lt_of_heap hk
  have hcB : w2.cell? ⟨Bn, 0, none⟩ = some u := by rw [cell_of_row _ _ _ _ _ _ hk]; rfl
  simp only [World.size_alloc] at hBn
  obtain ⟨p, cap, rfl, _, _, _, hcells⟩ := hO.sl
  obtain ⟨b, hbw, hbn, hp⟩ : ∃ b, b < w2.heap.size ∧ w.heap.size < b ∧ (zs.length = 0 ∨ ∃ off, p = some ⟨b, off, none⟩ ∧ ∀ j, j < zs.length → w2.cell? ⟨b, off + j, none⟩ = some (.int .i64 (zs[j]?.getD 0))) := by
    rcases hO.2 with ⟨_, h0⟩ | ⟨g, cap', h0, h2, h3, _, h5, _⟩
    · exact ⟨Bn, hBnw, by omega, .inl h0⟩
    · refine ⟨g, h3, by omega, .inr ⟨0, by simp at h0; exact h0.1, fun j hj => ?_⟩⟩
      rw [Nat.zero_add]
      refine h5 j _ ?_
      simp [intVals, hj]
  clear hO hcells hk hb2
  have hrow0 : w2.ownsRow w2.heap.size 3 1 (.slice none 0 0) 0 [] := World.ownsRow_nil _ _ _ _
  refine wpIn_rangeFunc_ownG hro h1 (gf := 187) (lb := #[.pointer (some ⟨Bn, 0, none⟩)]) rfl trivial (enters_of Try.func187 (by kernel_rfl) rfl)
    (ringI_all_stops Fence.wide (3 - 1) trivial hro (by omega) Bn b p cap zs (by omega) w2 hBnw hbw hcB hp) KeepsAt.trans (fun W l o o' hl _ _ _ => KeepsAt.put hbw hl) (Below.refl _ _) (fun _ => rfl)
    (fun pre W => (∃ v, Boxed W w.heap.size 77 v ∧ W.ownsRow w2.heap.size 3 1 v pre.length (intVals pre) ∧ True) ∧ Below w.heap.size w W ∧ Below 0 w2 W)
    (fun _ _ _ => False)
    (OwnFrom.and (Own.from (holdsRow_own w2.heap.size w.heap.size 77 3 1 (fun pre => pre.length) (fun pre => intVals pre) (fun _ _ => True)) _) (OwnFrom.and (ownFrom_below (Nat.le_refl _) hB0.size) (ownFrom_below (Nat.zero_le _) (Nat.zero_le _))))
    (fun _ _ _ _ _ hs _ _ => hs)
    ⟨⟨_, bO, hrow0, trivial⟩, hB0, Below.refl _ _⟩
    (fun x => { tmps := #[.pointer q, undef, .slice none 0 0, .pointer (some ⟨w.heap.size, 0, none⟩), .int .i64 x, .pointer q, .func (.func 187) #[] #[.pointer (some ⟨Bn, 0, none⟩)], .int .i64 x, undef, undef, undef, undef, undef], defers := [] }) ?assign ?body ?done ?stop
  case assign =>
    intro l x W K hK
    gi_wp2
    exact hK
  case body =>
    rintro l pre x W ⟨⟨v, hv, hrow, _⟩, hB, hB2⟩ hlt
    have hc := hv.cell
    have hWs : w2.heap.size ≤ W.heap.size := hB2.size
    gi_wp2_with (gi_at_builtin; refine wpListIn_append_own _ rfl _ _ 77 rfl w2.heap.size 3 i0 (.int .i64 0) 1 8 Try.underlying77 hi hz0 hz1 hz2 rfl (by decide) _ _ _ rfl (hrow.alloc _) ⟨W.heap.size, 0, none⟩ 1 1 [.int .i64 x] rfl rfl (cell_one_new _ _ _) (by simp [Value.oneCell']) (by unfold maxLen; omega) (by omega) (by simp; omega) ?_; intro v' w1 hown' hgrow _; obtain ⟨g', cap', rfl⟩ := ownsRow_succ hown'; obtain ⟨hv1, hv2, hr2, hk2, hb2, hka⟩ := appended2 hv (by decide) hrow hWs hB0.size (Nat.le_refl _) hown' hgrow; have hc1 := hv1.cell; have hf1 := hv1.frozen)
    exact ⟨hk2.from _, hka b hbw (by omega), ⟨_, hv2, by rw [intVals_append, List.length_append]; exact hr2, trivial⟩, hB.trans hb2, hB2.trans (hb2.mono (Nat.zero_le _))⟩
  case done =>
    rintro D ys W hD rfl ⟨⟨v, hv, hrow, _⟩, hB, hB2⟩ hK
    have hc := hv.cell
    gi_wp2
    refine ⟨by simp, .inl ⟨_, _, rfl, run_takeDeferred hK, ?_⟩⟩
    exact ⟨_, results_tmp rfl _ _ _, v, rfl, (owns_of_row (ownsRow_putObj hrow _ hK rfl)).mono hB0.size, hB.trans (belowK_b (w := w) (Nat.le_refl _) W D _ _ (Nat.le_trans hB0.size hD) hK rfl rfl)⟩
  case stop =>
    rintro D c pre W _ _ h _
    exact h.elim
end Go.Proofs.Ytapgcbjlgekpeaa

/- Layer 14: a ring of decisions: its room, its length, a new one, what is pushed. -/
namespace Go.Proofs.Ytapgcbjlgekpeaa
open Go.ChangeShapes Go.WideShapes Go.ChangeAt Go.RowKit

/-- One element put anew, whatever its cells. -/
theorem Owns.putMid {w : World} {B n g cap sz : Nat} {xs : List Value} {p : Option Addr} (h : Owns w B sz (.slice p n cap) n xs) (hg : (Value.slice p n cap).ownBlock = some g) (j : Nat) (us : List Value) (hu : us.length = sz) (hj : j < n)
    (xs' : List Value) (hl : xs'.length = xs.length) (hx : ∀ i, xs'[i]? = if j * sz ≤ i ∧ i < j * sz + sz then us[i - j * sz]? else xs[i]?) :
    Owns (w.setCells g (j * sz) us) B sz (.slice p n cap) n xs' := by
  obtain ⟨hl0, h⟩ := h
  refine ⟨hl.trans hl0, ?_⟩
  rcases h with ⟨h1, h2⟩ | ⟨g', cap', h1, h2, h3, h4, h5, h6⟩
  · omega
  · obtain rfl : g = g' := by
      simp only [Value.slice.injEq] at h1
      obtain ⟨rfl, _, _⟩ := h1
      simpa [Value.ownBlock] using hg.symm
    have hjs : j * sz + sz ≤ cap' * sz := by
      have : (j + 1) * sz ≤ cap' * sz := Nat.mul_le_mul_right _ (by omega)
      rw [Nat.add_mul, Nat.one_mul] at this
      exact this
    refine .inr ⟨g, cap', h1, h2, Nat.lt_of_lt_of_le h3 (below_setCells g us (j * sz) (Below.refl g w)).size, h4, fun i u hi => ?_, fun i hi => ⟨?_, ?_⟩⟩
    · rw [hx] at hi
      by_cases hin : j * sz ≤ i ∧ i < j * sz + sz
      · rw [if_pos hin] at hi
        have hlt : i - j * sz < us.length := (List.getElem?_eq_some_iff.1 hi).1
        have := World.cell?_setCells_in g us (j * sz) w (fun k hk => (h6 _ (by omega)).1) (i - j * sz) hlt
        rw [show j * sz + (i - j * sz) = i by omega] at this
        rw [this, ← hi, List.getElem?_eq_getElem hlt]
      · rw [if_neg hin] at hi
        rw [World.cell?_setCells_out g us _ w ⟨g, i, none⟩ (fun _ _ => by show i < _ ∨ _ ≤ i; omega)]
        exact h5 i u hi
    · exact isSome_setCells _ _ _ _ _ (h6 i hi).1
    · rw [World.frozen?_setCells]; exact (h6 i hi).2
theorem Turned.setCells {S : Nat → Prop} {w w' : World} (h : Turned S w w') {b : Nat} (hb : b < w.heap.size → S b) : ∀ (vs : List Value) (o : Nat), Turned S w (w'.setCells b o vs) := by
  intro vs
  induction vs generalizing w' with
  | nil => intro o; exact h
  | cons v r ih => intro o; exact ih (h.setCell v hb) (o + 1)
theorem heap_setCells_other (w : World) (b : Nat) (vs : List Value) (o k : Nat) (hk : k ≠ b) : (w.setCells b o vs).heap[k]? = w.heap[k]? := by
  induction vs generalizing w o with
  | nil => rfl
  | cons v r ih => exact (ih (w.setCell ⟨b, o, none⟩ v) (o + 1)).trans (Below.heap_setCell _ _ _ _ hk)

theorem advVals_set (ys : List Adv) (f : Nat) (a : Adv) (i : Nat) : (advVals (ys.set f a))[i]? = if f * 5 ≤ i ∧ i < f * 5 + 5 then (if f < ys.length then (advVals [a])[i - f * 5]? else none) else (advVals ys)[i]? := by
  induction ys generalizing f i with
  | nil =>
    simp [advVals]
  | cons y ys ih =>
    cases f with
    | zero =>
      match i with
      | 0 => rfl
      | 1 => rfl
      | 2 => rfl
      | 3 => rfl
      | 4 => rfl
      | i + 5 => rw [if_neg (by omega)]; rfl
    | succ f =>
      match i with
      | 0 => rw [if_neg (by omega)]; rfl
      | 1 => rw [if_neg (by omega)]; rfl
      | 2 => rw [if_neg (by omega)]; rfl
      | 3 => rw [if_neg (by omega)]; rfl
      | 4 => rw [if_neg (by omega)]; rfl
      | i + 5 =>
        show (advVals (ys.set f a))[i]? = _
        rw [ih]
        have e : (y :: ys).length = ys.length + 1 := rfl
        by_cases h : f * 5 ≤ i ∧ i < f * 5 + 5
        · rw [if_pos h, if_pos (show (f + 1) * 5 ≤ i + 5 ∧ i + 5 < (f + 1) * 5 + 5 by omega), e, show i + 5 - (f + 1) * 5 = i - f * 5 by omega]
          by_cases h2 : f < ys.length
          · rw [if_pos h2, if_pos (show f + 1 < ys.length + 1 by omega)]
          · rw [if_neg h2, if_neg (show ¬ f + 1 < ys.length + 1 by omega)]
        · rw [if_neg h, if_neg (by omega)]
          rfl
theorem advVals_mid (ys : List Adv) (f : Nat) (a : Adv) (h : ys[f]? = some a) (j : Nat) (v : Value) (hj : (advVals [a])[j]? = some v) : (advVals ys)[f * 5 + j]? = some v := by
  have hj5 : j < 5 := (List.getElem?_eq_some_iff.1 hj).1
  have hf := (List.getElem?_eq_some_iff.1 h).1
  have e : ys.set f a = ys := by
    apply List.ext_getElem?
    intro i
    by_cases hi : i = f
    · subst hi; rw [List.getElem?_set_self hf, h]
    · rw [List.getElem?_set_ne (by omega)]
  have := advVals_set ys f a (f * 5 + j)
  rw [e, if_pos (by omega), if_pos hf, show f * 5 + j - f * 5 = j by omega] at this
  rw [this]; exact hj

section
variable {P : Program} {o : Oper} {a : Act} {w : World} {K : Act → World → Prop} {Q : Exit → Act → World → Prop}
theorem wp_append_any2 (s x : Operand) (t : TypeId) (ho : o.op = .call { callee := .builtin .append, args := #[s, x], argTypes := #[t, t] })
    (B : Nat) (e : TypeId) (z : Value) (size bytes : Nat) (ht : P.underlying t = some (.slice e)) (hi : (P.info? e).map (fun i => (i.zero, i.size, i.bytes)) = some (some z, size, bytes)) (hzs : z.cells.size = size) (hsz : 0 < size)
    (v : Value) (n : Nat) (xs : List Value) (hs : a.eval s = v) (hown : Owns w B size v n xs)
    (ao : Option Addr) (m c : Nat) (news : List Value) (hx : a.eval x = .slice ao m c) (hl : news.length = m * size) (hnone : ao = none → m = 0 ∧ c = 0) (hnews : ∀ ad, ao = some ad → ∀ j u, news[j]? = some u → w.cell? (ad.add j) = some u) (h1 : ∀ u ∈ news, u.oneCell' = true)
    (h63 : n + m ≤ maxLen) (hbytes : (n + m) * bytes ≤ 140737488355328) (hB : B ≤ w.heap.size)
    (h : ∀ v' w', Owns w' B size v' (n + m) (xs ++ news) → w.grownBy w' v.ownBlock → (v'.ownBlock = v.ownBlock ∨ ∀ k, v'.ownBlock = some k → w.heap.size ≤ k) → K (a.put o.dst v') w') : o.wp P a w K Q := by
  obtain ⟨i, hi1, hi2, hi3, hi4⟩ := info_parts hi
  obtain ⟨v', w', hr, h2, h3, h4⟩ := run_append_any2 (P := P) w B t o.type e i z size bytes ht hi1 hi2 hi3 hi4 hzs hsz v n xs hown ao m c news hl hnone hnews h1 h63 hbytes hB
  unfold Oper.wp execOp
  simp only [ho, resolve, invoke, builtin, Sem.run_bind, Sem.run_pure, Result.andThen_ok, List.map_toArray, List.map_cons, List.map_nil, hs, hx, hr]
  exact h v' w' h2 h3 h4
end

theorem advSize5 : (Try.prog.info? 27).map (·.size) = some 5 := by kernel_rfl
theorem advVals_one1 (a : Adv) : ∀ u ∈ advVals [a], u.oneCell' = true := by
  intro u h
  simp only [advVals, List.mem_cons] at h
  rcases h with rfl | rfl | rfl | rfl | rfl | h <;> first | rfl | cases h
theorem turned_setRow (w : World) (b : Nat) (cs : Array Value) : Turned (fun k => k = b) w (w.setRow b cs) := ⟨rfl, rfl, rfl, by simp, fun k hk hn => setRow_other w b k cs hn⟩
theorem ring_mid {w : World} {B n g cap first : Nat} {xs cs : List Value} (h : Owns w B 5 (.slice (some ⟨g, 0, none⟩) n cap) n xs) (hf : first < n) (hy : ∀ j u, cs[j]? = some u → xs[first * 5 + j]? = some u) : w.rangeAt g (first * 5) cs := by
  intro j u hu
  obtain ⟨_, hO⟩ := h
  rcases hO with ⟨_, h0⟩ | ⟨g', cap', h0, _, _, _, h5, _⟩
  · omega
  · simp at h0; rw [h0.1]; exact h5 _ _ (hy j u hu)
theorem ring_there {w : World} {B n g cap first : Nat} {xs : List Value} (h : Owns w B 5 (.slice (some ⟨g, 0, none⟩) n cap) n xs) (hf : first < n) : w.there g (first * 5) 5 := by
  intro j hj
  obtain ⟨_, hO⟩ := h
  rcases hO with ⟨_, h0⟩ | ⟨g', cap', h0, _, _, _, _, h6⟩
  · omega
  · simp at h0; rw [h0.1]; exact h6 _ (by omega)
theorem ringA_new_no (room : Int) (h : room < 1 ∨ 4096 < room) (w : World) : Calls Try.prog 137 #[.int .i64 room] w fun e w' => e = .returned (.pointer none) ∧ w = w' := by
  by_cases h1 : room < 1
  · clear h
    go_enter Try.func137, Try.ntmps137
    go_wp2
    go_ret
    exact ⟨rfl, rfl⟩
  · have h2 : 4096 < room := by omega
    clear h
    go_enter Try.func137, Try.ntmps137
    go_wp2
    go_ret
    exact ⟨rfl, rfl⟩
theorem ringA_new (room : Nat) (h1 : 1 ≤ room) (h2 : room ≤ 4096) (w : World) : Calls Try.prog 137 #[.int .i64 room] w fun e w' => e = .returned (.pointer (some ⟨w.heap.size, 0, none⟩)) ∧ w' = w.alloc (.cells #[.int .i64 room, .int .i64 0, .slice none 0 0] 236) := by
  go_enter Try.func137, Try.ntmps137
  go_wp2
  go_ret
  exact ⟨rfl, rfl⟩
theorem ringA_room_nil (w : World) : Calls Try.prog 175 #[.pointer none] w fun e w' => e = .returned (.int .i64 0) ∧ w = w' := by
  go_enter Try.func175, Try.ntmps175
  go_wp2
  go_ret
  exact ⟨rfl, rfl⟩
theorem ringA_room {w : World} {B r : Nat} {v : Value} {room first n : Nat} {xs : List Value} (h : RingAt 236 5 w B r v room first n xs) :
    Calls Try.prog 175 #[.pointer (some ⟨r, 0, none⟩)] w fun e w' => e = .returned (.int .i64 room) ∧ w = w' := by
  have c0 := h.cell0
  clear h
  go_enter Try.func175, Try.ntmps175
  go_wp2
  go_ret
  exact ⟨rfl, rfl⟩
end Go.Proofs.Ytapgcbjlgekpeaa

/- Layer 14: a ring of decisions: what is pushed. -/
namespace Go.Proofs.Ytapgcbjlgekpeaa
open Go.ChangeShapes Go.WideShapes Go.ChangeAt Go.RowKit

theorem ringA_push_nil (a : Adv) (w : World) : Calls Try.prog 174 #[.pointer none, .agg #[.int .i64 a.tick, .int .i64 a.load, .int .i64 a.want, .int .i64 a.repl, .int .i64 a.why]] w fun e w' => (∃ u, e = .returned u) ∧ Below w.heap.size w w' := by
  have h1 := Lib.hid (ringA_room_nil)
  have M1 : Hid (Mem w (((w.alloc (.cells #[.int .i64 a.tick, .int .i64 a.load, .int .i64 a.want, .int .i64 a.repl, .int .i64 a.why] 27)).alloc (.cells #[.int .i64 0, .int .i64 0, .int .i64 0, .int .i64 0, .int .i64 0] 27)).alloc (.cells #[.int .i64 0, .int .i64 0, .int .i64 0, .int .i64 0, .int .i64 0] 27)) [(w.heap.size, .cells #[.int .i64 a.tick, .int .i64 a.load, .int .i64 a.want, .int .i64 a.repl, .int .i64 a.why] 27), (w.heap.size + 1, .cells #[.int .i64 0, .int .i64 0, .int .i64 0, .int .i64 0, .int .i64 0] 27), (w.heap.size + 2, .cells #[.int .i64 0, .int .i64 0, .int .i64 0, .int .i64 0, .int .i64 0] 27)]) :=
    (((Mem.start w).alloc _).allocAs (w.heap.size + 1) _ (by simp)).allocAs (w.heap.size + 2) _ (by simp)
  have K1 := Lib.hid (M1.out.heap 1 rfl)
  have K2 := Lib.hid (M1.out.heap 2 rfl)
  go_enter Try.func174, Try.ntmps174
  go_wp2_with (first | ((with_reducible refine (h1.out _).mono ?_); rintro e w1 ⟨rfl, rfl⟩) | ((with_reducible refine wpList_load_rowAs rfl 27 _ rfl ((w.heap.size + 2)) ?_ 27 #[.int .i64 0, .int .i64 0, .int .i64 0, .int .i64 0, .int .i64 0] (0, 0) _ 5 ?_ Try.underlying27 rfl (by kernel_rfl) ?_ ?_); exact rfl; exact K2.out; exact rfl) | ((with_reducible refine wpList_store_rowAs rfl 27 _ _ rfl ((w.heap.size + 1)) #[.int .i64 0, .int .i64 0, .int .i64 0, .int .i64 0, .int .i64 0] ?_ ?_ 27 #[.int .i64 0, .int .i64 0, .int .i64 0, .int .i64 0, .int .i64 0] 5 ?_ (by kernel_rfl) rfl rfl (by simp [Value.oneCell']) ?_); exact rfl; exact rfl; exact K1.out))
  exact bodyPost_ret (results_row_tmp rfl _ _ (w.heap.size + 1) 27 #[.int .i64 0, .int .i64 0, .int .i64 0, .int .i64 0, .int .i64 0] (0, 0) _ 5 _ rfl rfl ((M1.out.setRow 1 rfl).heap 1 rfl) Try.underlying27 rfl advSize5 rfl) rfl ⟨⟨_, rfl⟩, (M1.out.setRow 1 rfl).below⟩

set_option maxHeartbeats 2000000 in
set_option maxRecDepth 100000 in
theorem ringA_push_grows {w : World} {B r : Nat} {v : Value} {room n : Nat} {xs : List Value} (h : RingAt 236 5 w B r v room 0 n xs) (hr : n < room) (hr2 : room ≤ 4096) (hB : B ≤ w.heap.size) (a : Adv) :
    Calls Try.prog 174 #[.pointer (some ⟨r, 0, none⟩), .agg #[.int .i64 a.tick, .int .i64 a.load, .int .i64 a.want, .int .i64 a.repl, .int .i64 a.why]] w fun e w' => (∃ u, e = .returned u) ∧
      ∃ v', RingAt 236 5 w' B r v' room 0 (n + 1) (xs ++ advVals [a]) ∧ Turned (fun k => k = r ∨ v.ownBlock = some k) w w' ∧ (∀ k, v'.ownBlock = some k → v.ownBlock = some k ∨ w.heap.size ≤ k) := by
  obtain ⟨W, hW⟩ : ∃ W, W = (((w.alloc (.cells #[.int .i64 a.tick, .int .i64 a.load, .int .i64 a.want, .int .i64 a.repl, .int .i64 a.why] 27)).alloc (.cells #[.int .i64 0, .int .i64 0, .int .i64 0, .int .i64 0, .int .i64 0] 27)).alloc (.cells #[.int .i64 0, .int .i64 0, .int .i64 0, .int .i64 0, .int .i64 0] 27)) := ⟨_, rfl⟩
  have M1 : Hid (Mem w W [(w.heap.size, .cells #[.int .i64 a.tick, .int .i64 a.load, .int .i64 a.want, .int .i64 a.repl, .int .i64 a.why] 27), (w.heap.size + 1, .cells #[.int .i64 0, .int .i64 0, .int .i64 0, .int .i64 0, .int .i64 0] 27), (w.heap.size + 2, .cells #[.int .i64 0, .int .i64 0, .int .i64 0, .int .i64 0, .int .i64 0] 27)]) :=
    by show Mem _ _ _; rw [hW]; exact (((Mem.start w).alloc _).allocAs (w.heap.size + 1) _ (by simp)).allocAs (w.heap.size + 2) _ (by simp)
  have hR := h.below M1.out.below
  have h1 := Lib.hid (ringA_room hR)
  have d0 : ((room : Int) == 0) = false := beq_eq_false_iff_ne.2 (by omega)
  have c0 := hR.cell0
  have c2 := hR.cell2
  obtain ⟨p, cap, ev, _⟩ := h.owns.sl
  have H := Lib.hid hR
  have HLT := Lib.hid h.lt
  have HOL := Lib.hid h.owns.lt
  rw [ev] at c2 H HOL ⊢
  have K0 := Lib.hid (M1.out.heap 0 rfl)
  have K1 := Lib.hid (M1.out.heap 1 rfl)
  have K2 := Lib.hid (M1.out.heap 2 rfl)
  clear h ev hR
  go_enter Try.func174, Try.ntmps174
  go_wp2_with fail
  rw [← hW]
  have MB := Lib.hid M1.out.below
  clear hW M1
  (with_reducible refine h1.out.mono ?_)
  rintro e w1 ⟨rfl, rfl⟩
  go_wp2_with (first | ((with_reducible refine wpList_load_rowAs rfl 27 _ rfl ((w.heap.size + 2)) ?_ 27 #[.int .i64 0, .int .i64 0, .int .i64 0, .int .i64 0, .int .i64 0] (0, 0) _ 5 ?_ Try.underlying27 rfl (by kernel_rfl) ?_ ?_); exact rfl; exact K2.out; exact rfl) | ((with_reducible refine wpList_store_rowAs rfl 27 _ _ rfl ((w.heap.size + 1)) #[.int .i64 0, .int .i64 0, .int .i64 0, .int .i64 0, .int .i64 0] ?_ ?_ 27 #[.int .i64 0, .int .i64 0, .int .i64 0, .int .i64 0, .int .i64 0] 5 ?_ (by kernel_rfl) rfl rfl (by simp [Value.oneCell']) ?_); exact rfl; exact rfl; exact K1.out))
  go_quiet (fail)
  have HR : Hid (RingAt 236 5 (W.drewN nq) B r (.slice p n cap) room 0 n xs) := H.out.same (Nat.le_refl _) rfl (fun _ _ => rfl)
  have ht0 : Turned (fun k => k = r ∨ (Value.slice p n cap).ownBlock = some k) w (W.drewN nq) := (Turned.of_below MB.out).drewN nq
  have HT := Lib.hid ht0
  have K0' : (W.drewN nq).heap[w.heap.size]? = some (.cells #[.int .i64 a.tick, .int .i64 a.load, .int .i64 a.want, .int .i64 a.repl, .int .i64 a.why] 27 (0, 0)) := K0.out
  have K1' : (W.drewN nq).heap[w.heap.size + 1]? = some (.cells #[.int .i64 0, .int .i64 0, .int .i64 0, .int .i64 0, .int .i64 0] 27 (0, 0)) := K1.out
  have K2' : (W.drewN nq).heap[w.heap.size + 2]? = some (.cells #[.int .i64 0, .int .i64 0, .int .i64 0, .int .i64 0, .int .i64 0] 27 (0, 0)) := K2.out
  have KK := Lib.hid (And.intro K0' (And.intro K1' K2'))
  have hWs := MB.out.size
  obtain ⟨W2, hW2⟩ : ∃ X, X = W.drewN nq := ⟨_, rfl⟩
  rw [← hW2] at HR HT KK ⊢
  have hst := stab_and (stab_and (stab_ring (TR := 236) (sz := 5) (B := B) (r := r) (v := .slice p n cap) (room := room) (first := 0) (n := n) (xs := xs)) (stab_turned (S := fun k => k = r ∨ (Value.slice p n cap).ownBlock = some k) (w := w))) (stab_and (stab_heap w.heap.size (.cells #[.int .i64 a.tick, .int .i64 a.load, .int .i64 a.want, .int .i64 a.repl, .int .i64 a.why] 27 (0, 0))) (stab_and (stab_heap (w.heap.size + 1) (.cells #[.int .i64 0, .int .i64 0, .int .i64 0, .int .i64 0, .int .i64 0] 27 (0, 0))) (stab_heap (w.heap.size + 2) (.cells #[.int .i64 0, .int .i64 0, .int .i64 0, .int .i64 0, .int .i64 0] 27 (0, 0)))))
  clear K0 K1 K2 K0' K1' K2' ht0 c0 c2 h1 H hW2
  go_wp2_with fail
  refine wp_region_E mixed [7, 10] hst ⟨⟨HR.out.same (Nat.le_refl _) rfl (fun _ _ => rfl), HT.out.drewN 1⟩, KK.out⟩ ?_
  refine wpAnyE_take 0 rfl (by kernel_rfl) (by kernel_rfl) (by kernel_rfl) (fun _ _ _ h => h) hst (EffB.pure rfl (fun _ => rfl)) (.inr (EffB.pure rfl (fun _ => rfl))) ?_
  simp only [act_norm]
  refine wpAnyE_take 1 rfl (by kernel_rfl) (by kernel_rfl) (by kernel_rfl) (fun _ _ _ h => h) hst (EffB.pure rfl (fun _ => rfl)) (.inr (EffB.pure rfl (fun _ => rfl))) ?_
  simp only [act_norm]
  refine wpAnyE_take 2 (v := .pointer (some ⟨r, 0, none⟩)) rfl (by kernel_rfl) (by kernel_rfl) (by kernel_rfl) (fun _ _ _ h => h) hst (EffB.run rfl rfl (fun wd hS => ?_)) (.inr (EffB.run rfl rfl (fun wd hS => ?_))) ?_
  · (go_wp2; exact ⟨rfl, Below.refl _ _⟩)
  · (go_wp2; exact ⟨rfl, Below.refl _ _⟩)
  simp only [act_norm]
  refine wpAnyE_take 3 (v := .pointer (some ⟨r, 2, none⟩)) rfl (by kernel_rfl) (by kernel_rfl) (by kernel_rfl) (fun _ _ _ h => h) hst (EffB.run rfl rfl (fun wd hS => ?_)) (.inr (EffB.run rfl rfl (fun wd hS => ?_))) ?_
  · (go_wp2; exact ⟨rfl, Below.refl _ _⟩)
  · (go_wp2; exact ⟨rfl, Below.refl _ _⟩)
  simp only [act_norm]
  refine wpAnyE_take 4 (v := .slice p n cap) rfl (by kernel_rfl) (by kernel_rfl) (by kernel_rfl) (fun _ _ _ h => h) hst (EffB.run rfl rfl (fun wd hS => ?_)) (.inl (by kernel_rfl)) ?_
  · (have c2 : wd.cell? ⟨r, 2, none⟩ = some (.slice p n cap) := by rw [cell_of_row _ _ _ _ _ _ (hS.1.1.row)]; rfl); go_wp2; exact ⟨rfl, Below.refl _ _⟩
  simp only [act_norm]
  refine wpAnyE_take 5 (v := .agg #[.int .i64 a.tick, .int .i64 a.load, .int .i64 a.want, .int .i64 a.repl, .int .i64 a.why]) rfl (by kernel_rfl) (by kernel_rfl) (by kernel_rfl) (fun _ _ _ h => h) hst (EffB.run rfl rfl (fun wd hS => ?_)) (.inl (by kernel_rfl)) ?_
  · exact wp_load_row 27 _ rfl (w.heap.size) rfl 27 #[.int .i64 a.tick, .int .i64 a.load, .int .i64 a.want, .int .i64 a.repl, .int .i64 a.why] (0, 0) _ (hS.2.1) Try.underlying27 rfl (by kernel_rfl) ⟨rfl, Below.refl _ _⟩
  simp only [act_norm]
  refine wpAnyE_one 6 rfl (by kernel_rfl) rfl (fun wd hS => ?_)
  have hst2 := stab_and hst (stab_heap wd.heap.size (.cells #[.int .i64 a.tick, .int .i64 a.load, .int .i64 a.want, .int .i64 a.repl, .int .i64 a.why] 27 (0, 0)))
  have X1 := Lib.hid (And.intro (hst _ _ hS (below1 wd (.cells #[.int .i64 a.tick, .int .i64 a.load, .int .i64 a.want, .int .i64 a.repl, .int .i64 a.why] 27))) (heap_alloc_at wd (.cells #[.int .i64 a.tick, .int .i64 a.load, .int .i64 a.want, .int .i64 a.repl, .int .i64 a.why] 27) wd.heap.size rfl))
  clear hS
  go_wp2
  refine ⟨_, X1.out, hst2, (by first | exact fun _ h => h.1 | exact .inr fun _ h => h.1), ?_⟩
  obtain ⟨X, hX⟩ : ∃ X, wd.heap.size = X := ⟨_, rfl⟩
  rw [hX] at hst2 ⊢
  clear X1 hst hX
  try simp only [act_norm]
  refine wpAnyE_one 7 rfl (by kernel_rfl) rfl (fun wd hS => ?_)
  have c28 : ∀ (j : Nat) (u : Value), (advVals [a])[j]? = some u → wd.cell? ⟨X, j, none⟩ = some u := fun j u hu => by
    rw [cell_of_row _ _ _ _ _ _ hS.2]
    simpa [advVals] using hu
  refine wp_append_any2 _ _ 38 rfl B 27 (.agg #[.int .i64 0, .int .i64 0, .int .i64 0, .int .i64 0, .int .i64 0]) 5 40 Try.underlying38 advInfo rfl (by decide) (.slice p n cap) n xs rfl hS.1.1.1.owns (some ⟨X, 0, none⟩) 1 1 (advVals [a]) rfl rfl (by simp) (fun ad had j u hu => by cases had; rw [Addr.add_mid, Nat.zero_add]; exact c28 j u hu) (advVals_one1 a) (by unfold maxLen; omega) (by omega) (by have := hS.1.1.2.size; omega) (fun v1 wx ha1 hg1 hw1 => ?_)
  obtain ⟨p1, cap1, rfl, _⟩ := ha1.sl
  have k1 := (hg1.block r hS.1.1.1.lt (fun e => hS.1.1.1.apart e.symm)).trans hS.1.1.1.row
  have kA : ∀ (k : Nat) (o : Obj), w.heap.size ≤ k → wd.heap[k]? = some o → wx.heap[k]? = some o := fun k o hk1 hk => (hg1.block k (lt_of_heap hk) (fun e => by have := HOL.out k e.symm; omega)).trans hk
  have hap : (Value.slice p1 (n + 1) cap1).ownBlock ≠ some r := by
    rcases hw1 with hw1 | hw1
    · rw [hw1]; exact hS.1.1.1.apart
    · intro e; have := hw1 r e; have := hS.1.1.1.lt; omega
  have hwk : ∀ k, (Value.slice p1 (n + 1) cap1).ownBlock = some k → (Value.slice p n cap).ownBlock = some k ∨ w.heap.size + 3 ≤ k := fun k hk => by
    rcases hw1 with hw1 | hw1
    · exact .inl (hw1 ▸ hk)
    · have := hw1 k hk; have := lt_of_heap hS.1.2.2.2; exact .inr (by omega)
  have ht1 := hS.1.1.2.grown hg1 (fun k hk _ => .inr hk)
  have hst3 := stab_and (stab_and (stab_and (stab_owns (B := B) (sz := 5) (v := .slice p1 (n + 1) cap1) (n := n + 1) (xs := xs ++ advVals [a])) (stab_heap r (.cells #[.int .i64 room, .int .i64 (0 : Nat), .slice p n cap] 236 (0, 0)))) (stab_turned (S := fun k => k = r ∨ (Value.slice p n cap).ownBlock = some k) (w := w))) (stab_and (stab_heap (w.heap.size + 1) (.cells #[.int .i64 0, .int .i64 0, .int .i64 0, .int .i64 0, .int .i64 0] 27 (0, 0))) (stab_heap (w.heap.size + 2) (.cells #[.int .i64 0, .int .i64 0, .int .i64 0, .int .i64 0, .int .i64 0] 27 (0, 0))))
  have X3 := Lib.hid (And.intro (And.intro (And.intro ha1 k1) ht1) (And.intro (kA (w.heap.size + 1) _ (by omega) hS.1.2.2.1) (kA (w.heap.size + 2) _ (by omega) hS.1.2.2.2)))
  have HAP := Lib.hid hap
  have HWK := Lib.hid hwk
  have HLO := Lib.hid hS.1.1.1.low
  clear hS kA k1 hap hwk ht1 hg1 hw1 ha1 c28 hst2
  refine ⟨_, X3.out, hst3, .inl (by decide), ?_⟩
  clear X3
  have hst := hst3
  try simp only [act_norm]
  refine wpAnyE_take 8 (v := .pointer (some ⟨r, 0, none⟩)) rfl (by kernel_rfl) (by kernel_rfl) (by kernel_rfl) (fun _ _ _ h => h) hst (EffB.run rfl rfl (fun wd hS => ?_)) (.inr (EffB.run rfl rfl (fun wd hS => ?_))) ?_
  · (go_wp2; exact ⟨rfl, Below.refl _ _⟩)
  · (go_wp2; exact ⟨rfl, Below.refl _ _⟩)
  simp only [act_norm]
  refine wpAnyE_take 9 (v := .pointer (some ⟨r, 2, none⟩)) rfl (by kernel_rfl) (by kernel_rfl) (by kernel_rfl) (fun _ _ _ h => h) hst (EffB.run rfl rfl (fun wd hS => ?_)) (.inr (EffB.run rfl rfl (fun wd hS => ?_))) ?_
  · (go_wp2; exact ⟨rfl, Below.refl _ _⟩)
  · (go_wp2; exact ⟨rfl, Below.refl _ _⟩)
  simp only [act_norm]
  refine wpAnyE_one 10 rfl (by kernel_rfl) rfl (fun wd hS => ?_)
  have c3 : wd.cell? ⟨r, 2, none⟩ = some (.slice p n cap) := (by rw [cell_of_row _ _ _ _ _ _ hS.1.1.2]; rfl)
  have g3 := frozen_of_row wd r 2 _ _ hS.1.1.2
  have hr3 : RingAt 236 5 (wd.setCell ⟨r, 2, none⟩ (.slice p1 (n + 1) cap1)) B r (.slice p1 (n + 1) cap1) room 0 (n + 1) (xs ++ advVals [a]) :=
    ⟨HLO.out, by rw [heap_setCell_same _ _ _ _ _ _ hS.1.1.2]; rfl, hS.1.1.1.setOther _ HAP.out, HAP.out, fun h => by omega⟩
  have ht3 := hS.1.2.setCell (b := r) (j := 2) (.slice p1 (n + 1) cap1) (fun _ => .inl rfl)
  have hrw : r < w.heap.size := HLT.out
  have k1 : (wd.setCell ⟨r, 2, none⟩ (.slice p1 (n + 1) cap1)).heap[w.heap.size + 1]? = some (.cells #[.int .i64 0, .int .i64 0, .int .i64 0, .int .i64 0, .int .i64 0] 27 (0, 0)) := (Below.heap_setCell _ _ _ _ (by show w.heap.size + 1 ≠ r; omega)).trans hS.2.1
  have k2 : (wd.setCell ⟨r, 2, none⟩ (.slice p1 (n + 1) cap1)).heap[w.heap.size + 2]? = some (.cells #[.int .i64 0, .int .i64 0, .int .i64 0, .int .i64 0, .int .i64 0] 27 (0, 0)) := (Below.heap_setCell _ _ _ _ (by show w.heap.size + 2 ≠ r; omega)).trans hS.2.2
  have X4 := Lib.hid (And.intro (And.intro hr3 ht3) (And.intro k1 k2))
  have hst4 := stab_and (stab_and (stab_ring (TR := 236) (sz := 5) (B := B) (r := r) (v := .slice p1 (n + 1) cap1) (room := room) (first := 0) (n := n + 1) (xs := xs ++ advVals [a])) (stab_turned (S := fun k => k = r ∨ (Value.slice p n cap).ownBlock = some k) (w := w))) (stab_and (stab_heap (w.heap.size + 1) (.cells #[.int .i64 0, .int .i64 0, .int .i64 0, .int .i64 0, .int .i64 0] 27 (0, 0))) (stab_heap (w.heap.size + 2) (.cells #[.int .i64 0, .int .i64 0, .int .i64 0, .int .i64 0, .int .i64 0] 27 (0, 0))))
  clear hS hst hst3 hr3 ht3 k1 k2 hrw
  go_wp2
  refine ⟨_, X4.out, hst4, ?_⟩
  clear X4 c3 g3
  try simp only [act_norm]
  refine wpAnyE_done (by kernel_rfl) (fun wd4 hS => ?_) _
  have HS := Lib.hid hS
  have K1 := Lib.hid hS.2.1
  have K2 := Lib.hid hS.2.2
  clear hS
  go_wp2_with (first | ((with_reducible refine wpList_load_rowAs rfl 27 _ rfl ((w.heap.size + 2)) ?_ 27 #[.int .i64 0, .int .i64 0, .int .i64 0, .int .i64 0, .int .i64 0] (0, 0) _ 5 ?_ Try.underlying27 rfl (by kernel_rfl) ?_ ?_); exact rfl; exact K2.out; exact rfl) | ((with_reducible refine wpList_store_rowAs rfl 27 _ _ rfl ((w.heap.size + 1)) #[.int .i64 0, .int .i64 0, .int .i64 0, .int .i64 0, .int .i64 0] ?_ ?_ 27 #[.int .i64 0, .int .i64 0, .int .i64 0, .int .i64 0, .int .i64 0] 5 ?_ (by kernel_rfl) rfl rfl (by simp [Value.oneCell']) ?_); exact rfl; exact rfl; exact K1.out))
  have hrw := HLT.out
  have hN : (Value.slice p1 (n + 1) cap1).ownBlock ≠ some (w.heap.size + 1) := fun e => by
    rcases HWK.out _ e with h1 | h1
    · have := (HOL.out _ h1).2; omega
    · omega
  have hT := turned_setRow wd4 (w.heap.size + 1) #[.int .i64 0, .int .i64 0, .int .i64 0, .int .i64 0, .int .i64 0]
  refine bodyPost_ret (results_row_tmp rfl _ _ (w.heap.size + 1) 27 #[.int .i64 0, .int .i64 0, .int .i64 0, .int .i64 0, .int .i64 0] (0, 0) _ 5 _ rfl rfl (setRow_heap _ _ _ _ _ _ K1.out) Try.underlying27 rfl advSize5 rfl) rfl ⟨⟨_, rfl⟩, _, HS.out.1.1.turned hT (by omega) (fun k hk e => hN (e ▸ hk)), HS.out.1.2.trans hT (fun k hk e => by omega), fun k hk => (HWK.out k hk).imp id (fun h => by omega)⟩
end Go.Proofs.Ytapgcbjlgekpeaa

/- Layer 14: a full ring of decisions: what is pushed. -/
namespace Go.Proofs.Ytapgcbjlgekpeaa
open Go.ChangeShapes Go.WideShapes Go.ChangeAt Go.RowKit

set_option maxHeartbeats 2000000 in
set_option maxRecDepth 100000 in
theorem ringA_push_full {w : World} {B r : Nat} {v : Value} {room first : Nat} {xs xs' : List Value} (h : RingAt 236 5 w B r v room first room xs) (hr1 : 1 ≤ room) (hr2 : room ≤ 4096) (hf : first < room) (y a : Adv)
    (hy : ∀ j u, (advVals [y])[j]? = some u → xs[first * 5 + j]? = some u) (hl' : xs'.length = xs.length) (hx' : ∀ i, xs'[i]? = if first * 5 ≤ i ∧ i < first * 5 + 5 then (advVals [a])[i - first * 5]? else xs[i]?) :
    Calls Try.prog 174 #[.pointer (some ⟨r, 0, none⟩), .agg #[.int .i64 a.tick, .int .i64 a.load, .int .i64 a.want, .int .i64 a.repl, .int .i64 a.why]] w fun e w' => (∃ u, e = .returned u) ∧
      RingAt 236 5 w' B r v room ((first + 1) % room) room xs' ∧ Turned (fun k => k = r ∨ v.ownBlock = some k) w w' := by
  obtain ⟨f1, ef1⟩ : ∃ f1, f1 = (first + 1) % room := ⟨_, rfl⟩
  have hm1 : Hid (((first : Int) + 1) % room = f1) := by show _ = _; rw [ef1]; simp
  rw [← ef1]
  clear ef1
  obtain ⟨W, hW⟩ : ∃ W, W = (((w.alloc (.cells #[.int .i64 a.tick, .int .i64 a.load, .int .i64 a.want, .int .i64 a.repl, .int .i64 a.why] 27)).alloc (.cells #[.int .i64 0, .int .i64 0, .int .i64 0, .int .i64 0, .int .i64 0] 27)).alloc (.cells #[.int .i64 0, .int .i64 0, .int .i64 0, .int .i64 0, .int .i64 0] 27)) := ⟨_, rfl⟩
  have M1 : Hid (Mem w W [(w.heap.size, .cells #[.int .i64 a.tick, .int .i64 a.load, .int .i64 a.want, .int .i64 a.repl, .int .i64 a.why] 27), (w.heap.size + 1, .cells #[.int .i64 0, .int .i64 0, .int .i64 0, .int .i64 0, .int .i64 0] 27), (w.heap.size + 2, .cells #[.int .i64 0, .int .i64 0, .int .i64 0, .int .i64 0, .int .i64 0] 27)]) :=
    by show Mem _ _ _; rw [hW]; exact (((Mem.start w).alloc _).allocAs (w.heap.size + 1) _ (by simp)).allocAs (w.heap.size + 2) _ (by simp)
  have hR := h.below M1.out.below
  have h1 := Lib.hid (ringA_room hR)
  have d0 : ((room : Int) == 0) = false := beq_eq_false_iff_ne.2 (by omega)
  have d1 : decide ((room : Int) < room) = false := decide_eq_false (by omega)
  have c0 := hR.cell0
  have c2 := hR.cell2
  obtain ⟨g, cap, ev, hgr, hBg, hgw, hrc⟩ := h.slice (by omega)
  have H := Lib.hid hR
  have HLT := Lib.hid h.lt
  have HGW := Lib.hid hgw
  have HGR := Lib.hid hgr
  have HY := Lib.hid hy
  have HL := Lib.hid hl'
  have HX := Lib.hid hx'
  rw [ev] at c2 H ⊢
  have K0 := Lib.hid (M1.out.heap 0 rfl)
  have K1 := Lib.hid (M1.out.heap 1 rfl)
  have K2 := Lib.hid (M1.out.heap 2 rfl)
  clear h ev hR hy hl' hx' hgw hgr hBg hrc
  go_enter Try.func174, Try.ntmps174
  go_wp2_with fail
  rw [← hW]
  have MB := Lib.hid M1.out.below
  clear hW M1
  (with_reducible refine h1.out.mono ?_)
  rintro e w1 ⟨rfl, rfl⟩
  go_wp2_with fail
  go_quiet (fail)
  have HR : Hid (RingAt 236 5 (W.drewN nq) B r (.slice (some ⟨g, 0, none⟩) room cap) room first room xs) := H.out.same (Nat.le_refl _) rfl (fun _ _ => rfl)
  have ht0 : Turned (fun k => k = r ∨ (Value.slice (some ⟨g, 0, none⟩) room cap).ownBlock = some k) w (W.drewN nq) := (Turned.of_below MB.out).drewN nq
  have HT := Lib.hid ht0
  have K0' : (W.drewN nq).heap[w.heap.size]? = some (.cells #[.int .i64 a.tick, .int .i64 a.load, .int .i64 a.want, .int .i64 a.repl, .int .i64 a.why] 27 (0, 0)) := K0.out
  have K1' : (W.drewN nq).heap[w.heap.size + 1]? = some (.cells #[.int .i64 0, .int .i64 0, .int .i64 0, .int .i64 0, .int .i64 0] 27 (0, 0)) := K1.out
  have KK := Lib.hid (And.intro K0' K1')
  have hWs := MB.out.size
  obtain ⟨W2, hW2⟩ : ∃ X, X = W.drewN nq := ⟨_, rfl⟩
  rw [← hW2] at HR HT KK ⊢
  have hst := stab_and (stab_and (stab_ring (TR := 236) (sz := 5) (B := B) (r := r) (v := .slice (some ⟨g, 0, none⟩) room cap) (room := room) (first := first) (n := room) (xs := xs)) (stab_turned (S := fun k => k = r ∨ (Value.slice (some ⟨g, 0, none⟩) room cap).ownBlock = some k) (w := w))) (stab_and (stab_heap w.heap.size (.cells #[.int .i64 a.tick, .int .i64 a.load, .int .i64 a.want, .int .i64 a.repl, .int .i64 a.why] 27 (0, 0))) (stab_heap (w.heap.size + 1) (.cells #[.int .i64 0, .int .i64 0, .int .i64 0, .int .i64 0, .int .i64 0] 27 (0, 0))))
  clear K0 K1 K2 K0' K1' ht0 c0 c2 h1 H hW2
  go_wp2_with fail
  refine wp_region_E mixed [11] hst ⟨⟨HR.out.same (Nat.le_refl _) rfl (fun _ _ => rfl), HT.out.drewN 1⟩, KK.out⟩ ?_
  refine wpAnyE_take 0 rfl (by kernel_rfl) (by kernel_rfl) (by kernel_rfl) (fun _ _ _ h => h) hst (EffB.pure rfl (fun _ => rfl)) (.inr (EffB.pure rfl (fun _ => rfl))) ?_
  simp only [act_norm]
  refine wpAnyE_take 1 rfl (by kernel_rfl) (by kernel_rfl) (by kernel_rfl) (fun _ _ _ h => h) hst (EffB.pure rfl (fun _ => rfl)) (.inr (EffB.pure rfl (fun _ => rfl))) ?_
  simp only [act_norm]
  refine wpAnyE_take 2 (v := .pointer (some ⟨r, 2, none⟩)) rfl (by kernel_rfl) (by kernel_rfl) (by kernel_rfl) (fun _ _ _ h => h) hst (EffB.run rfl rfl (fun wd hS => ?_)) (.inr (EffB.run rfl rfl (fun wd hS => ?_))) ?_
  · (go_wp2; exact ⟨rfl, Below.refl _ _⟩)
  · (go_wp2; exact ⟨rfl, Below.refl _ _⟩)
  simp only [act_norm]
  refine wpAnyE_take 3 (v := .slice (some ⟨g, 0, none⟩) room cap) rfl (by kernel_rfl) (by kernel_rfl) (by kernel_rfl) (fun _ _ _ h => h) hst (EffB.run rfl rfl (fun wd hS => ?_)) (.inl (by kernel_rfl)) ?_
  · (have c2 : wd.cell? ⟨r, 2, none⟩ = some (.slice (some ⟨g, 0, none⟩) room cap) := by rw [cell_of_row _ _ _ _ _ _ (hS.1.1.row)]; rfl); go_wp2; exact ⟨rfl, Below.refl _ _⟩
  simp only [act_norm]
  refine wpAnyE_take 4 rfl (by kernel_rfl) (by kernel_rfl) (by kernel_rfl) (fun _ _ _ h => h) hst (EffB.pure rfl (fun _ => rfl)) (.inr (EffB.pure rfl (fun _ => rfl))) ?_
  simp only [act_norm]
  refine wpAnyE_take 5 rfl (by kernel_rfl) (by kernel_rfl) (by kernel_rfl) (fun _ _ _ h => h) hst (EffB.pure rfl (fun _ => rfl)) (.inr (EffB.pure rfl (fun _ => rfl))) ?_
  simp only [act_norm]
  refine wpAnyE_take 6 (v := .pointer (some ⟨r, 1, none⟩)) rfl (by kernel_rfl) (by kernel_rfl) (by kernel_rfl) (fun _ _ _ h => h) hst (EffB.run rfl rfl (fun wd hS => ?_)) (.inr (EffB.run rfl rfl (fun wd hS => ?_))) ?_
  · (go_wp2; exact ⟨rfl, Below.refl _ _⟩)
  · (go_wp2; exact ⟨rfl, Below.refl _ _⟩)
  simp only [act_norm]
  refine wpAnyE_take 7 (v := .int .i64 first) rfl (by kernel_rfl) (by kernel_rfl) (by kernel_rfl) (fun _ _ _ h => h) hst (EffB.run rfl rfl (fun wd hS => ?_)) (.inl (by kernel_rfl)) ?_
  · (have c2 : wd.cell? ⟨r, 1, none⟩ = some (.int .i64 first) := by rw [cell_of_row _ _ _ _ _ _ (hS.1.1.row)]; rfl); go_wp2; exact ⟨rfl, Below.refl _ _⟩
  simp only [act_norm]
  refine wpAnyE_take 8 (v := .pointer (some ⟨g, first * 5, none⟩)) rfl (by kernel_rfl) (by kernel_rfl) (by kernel_rfl) (fun _ _ _ h => h) hst (EffB.run rfl rfl (fun wd hS => ?_)) (.inr (EffB.run rfl rfl (fun wd hS => ?_))) ?_
  · (go_wp2; exact ⟨rfl, Below.refl _ _⟩)
  · (go_wp2; exact ⟨rfl, Below.refl _ _⟩)
  simp only [act_norm]
  refine wpAnyE_take 9 (v := .agg #[.int .i64 y.tick, .int .i64 y.load, .int .i64 y.want, .int .i64 y.repl, .int .i64 y.why]) rfl (by kernel_rfl) (by kernel_rfl) (by kernel_rfl) (fun _ _ _ h => h) hst (EffB.run rfl rfl (fun wd hS => ?_)) (.inl (by kernel_rfl)) ?_
  · exact wp_load_mid 27 _ rfl g (first * 5) rfl (advVals [y]) _ (ring_mid (hS.1.1.owns) hf HY.out) Try.underlying27 rfl advSize5 ⟨rfl, Below.refl _ _⟩
  simp only [act_norm]
  refine wpAnyE_one 10 rfl (by kernel_rfl) rfl (fun wd hS => ?_)
  have hst2 := stab_and hst (stab_heap wd.heap.size (.cells #[.int .i64 0, .int .i64 0, .int .i64 0, .int .i64 0, .int .i64 0] 27 (0, 0)))
  have hXge : w.heap.size + 1 < wd.heap.size := lt_of_heap hS.2.2
  have X1 := Lib.hid (And.intro (hst _ _ hS (below1 wd (.cells #[.int .i64 0, .int .i64 0, .int .i64 0, .int .i64 0, .int .i64 0] 27))) (heap_alloc_at wd (.cells #[.int .i64 0, .int .i64 0, .int .i64 0, .int .i64 0, .int .i64 0] 27) wd.heap.size rfl))
  clear hS
  go_wp2
  refine ⟨_, X1.out, hst2, (by first | exact fun _ h => h.1 | exact .inr fun _ h => h.1), ?_⟩
  obtain ⟨X, hX⟩ : ∃ X, wd.heap.size = X := ⟨_, rfl⟩
  rw [hX] at hst2 hXge ⊢
  clear X1 hX
  try simp only [act_norm]
  refine wpAnyE_one 11 rfl (by kernel_rfl) rfl (fun wd hS => ?_)
  have hst3 := stab_and hst (stab_heap X (.cells #[.int .i64 y.tick, .int .i64 y.load, .int .i64 y.want, .int .i64 y.repl, .int .i64 y.why] 27 (0, 0)))
  clear hst hst2
  have hst := hst3
  have hXg : X ≠ g := by have := HGW.out; omega
  have hXr : X ≠ r := by have := HLT.out; omega
  have hown : (Value.slice (some ⟨g, 0, none⟩) room cap).ownBlock = some g := rfl
  refine wp_store_row 27 _ _ rfl X #[.int .i64 y.tick, .int .i64 y.load, .int .i64 y.want, .int .i64 y.repl, .int .i64 y.why] rfl rfl 27 #[.int .i64 0, .int .i64 0, .int .i64 0, .int .i64 0, .int .i64 0] hS.2 advSize5 rfl (by simp [Value.oneCell']) ?_
  refine ⟨_, (⟨⟨⟨hS.1.1.1.turned (turned_setRow wd X _) (Ne.symm hXr) (fun k hk e => by rw [hown] at hk; injection hk with hk; omega), hS.1.1.2.trans (turned_setRow wd X _) (fun k hk e => by omega)⟩, (setRow_other wd X w.heap.size _ (by omega)).trans hS.1.2.1, (setRow_other wd X (w.heap.size + 1) _ (by omega)).trans hS.1.2.2⟩, setRow_heap _ _ _ _ _ _ hS.2⟩), hst3, .inl (by decide), ?_⟩
  clear hS hst3
  try simp only [act_norm]
  refine wpAnyE_done (by kernel_rfl) (fun wd hS => ?_) _
  have HS := Lib.hid hS
  clear hS KK HR HT MB
  go_wp2_with fail
  refine wp_region_E mixed [10] hst ⟨⟨⟨HS.out.1.1.1.same (Nat.le_refl _) rfl (fun _ _ => rfl), HS.out.1.1.2.drewN 1⟩, HS.out.1.2⟩, HS.out.2⟩ ?_
  refine wpAnyE_take 0 rfl (by kernel_rfl) (by kernel_rfl) (by kernel_rfl) (fun _ _ _ h => h) hst (EffB.pure rfl (fun _ => rfl)) (.inr (EffB.pure rfl (fun _ => rfl))) ?_
  simp only [act_norm]
  refine wpAnyE_take 1 rfl (by kernel_rfl) (by kernel_rfl) (by kernel_rfl) (fun _ _ _ h => h) hst (EffB.pure rfl (fun _ => rfl)) (.inr (EffB.pure rfl (fun _ => rfl))) ?_
  simp only [act_norm]
  refine wpAnyE_take 2 (v := .pointer (some ⟨r, 2, none⟩)) rfl (by kernel_rfl) (by kernel_rfl) (by kernel_rfl) (fun _ _ _ h => h) hst (EffB.run rfl rfl (fun wd hS => ?_)) (.inr (EffB.run rfl rfl (fun wd hS => ?_))) ?_
  · (go_wp2; exact ⟨rfl, Below.refl _ _⟩)
  · (go_wp2; exact ⟨rfl, Below.refl _ _⟩)
  simp only [act_norm]
  refine wpAnyE_take 3 (v := .slice (some ⟨g, 0, none⟩) room cap) rfl (by kernel_rfl) (by kernel_rfl) (by kernel_rfl) (fun _ _ _ h => h) hst (EffB.run rfl rfl (fun wd hS => ?_)) (.inl (by kernel_rfl)) ?_
  · (have c2 : wd.cell? ⟨r, 2, none⟩ = some (.slice (some ⟨g, 0, none⟩) room cap) := by rw [cell_of_row _ _ _ _ _ _ (hS.1.1.1.row)]; rfl); go_wp2; exact ⟨rfl, Below.refl _ _⟩
  simp only [act_norm]
  refine wpAnyE_take 4 rfl (by kernel_rfl) (by kernel_rfl) (by kernel_rfl) (fun _ _ _ h => h) hst (EffB.pure rfl (fun _ => rfl)) (.inr (EffB.pure rfl (fun _ => rfl))) ?_
  simp only [act_norm]
  refine wpAnyE_take 5 rfl (by kernel_rfl) (by kernel_rfl) (by kernel_rfl) (fun _ _ _ h => h) hst (EffB.pure rfl (fun _ => rfl)) (.inr (EffB.pure rfl (fun _ => rfl))) ?_
  simp only [act_norm]
  refine wpAnyE_take 6 (v := .pointer (some ⟨r, 1, none⟩)) rfl (by kernel_rfl) (by kernel_rfl) (by kernel_rfl) (fun _ _ _ h => h) hst (EffB.run rfl rfl (fun wd hS => ?_)) (.inr (EffB.run rfl rfl (fun wd hS => ?_))) ?_
  · (go_wp2; exact ⟨rfl, Below.refl _ _⟩)
  · (go_wp2; exact ⟨rfl, Below.refl _ _⟩)
  simp only [act_norm]
  refine wpAnyE_take 7 (v := .int .i64 first) rfl (by kernel_rfl) (by kernel_rfl) (by kernel_rfl) (fun _ _ _ h => h) hst (EffB.run rfl rfl (fun wd hS => ?_)) (.inl (by kernel_rfl)) ?_
  · (have c2 : wd.cell? ⟨r, 1, none⟩ = some (.int .i64 first) := by rw [cell_of_row _ _ _ _ _ _ (hS.1.1.1.row)]; rfl); go_wp2; exact ⟨rfl, Below.refl _ _⟩
  simp only [act_norm]
  refine wpAnyE_take 8 (v := .agg #[.int .i64 a.tick, .int .i64 a.load, .int .i64 a.want, .int .i64 a.repl, .int .i64 a.why]) rfl (by kernel_rfl) (by kernel_rfl) (by kernel_rfl) (fun _ _ _ h => h) hst (EffB.run rfl rfl (fun wd hS => ?_)) (.inl (by kernel_rfl)) ?_
  · exact wp_load_row 27 _ rfl (w.heap.size) rfl 27 #[.int .i64 a.tick, .int .i64 a.load, .int .i64 a.want, .int .i64 a.repl, .int .i64 a.why] (0, 0) _ (hS.1.2.1) Try.underlying27 rfl (by kernel_rfl) ⟨rfl, Below.refl _ _⟩
  simp only [act_norm]
  refine wpAnyE_take 9 (v := .pointer (some ⟨g, first * 5, none⟩)) rfl (by kernel_rfl) (by kernel_rfl) (by kernel_rfl) (fun _ _ _ h => h) hst (EffB.run rfl rfl (fun wd hS => ?_)) (.inr (EffB.run rfl rfl (fun wd hS => ?_))) ?_
  · (go_wp2; exact ⟨rfl, Below.refl _ _⟩)
  · (go_wp2; exact ⟨rfl, Below.refl _ _⟩)
  simp only [act_norm]
  refine wpAnyE_one 10 rfl (by kernel_rfl) rfl (fun wd hS => ?_)
  have hst4 := stab_and (stab_and (stab_ring (TR := 236) (sz := 5) (B := B) (r := r) (v := .slice (some ⟨g, 0, none⟩) room cap) (room := room) (first := first) (n := room) (xs := xs')) (stab_turned (S := fun k => k = r ∨ (Value.slice (some ⟨g, 0, none⟩) room cap).ownBlock = some k) (w := w))) (stab_and (stab_heap (w.heap.size + 1) (.cells #[.int .i64 0, .int .i64 0, .int .i64 0, .int .i64 0, .int .i64 0] 27 (0, 0))) (stab_heap X (.cells #[.int .i64 y.tick, .int .i64 y.load, .int .i64 y.want, .int .i64 y.repl, .int .i64 y.why] 27 (0, 0))))
  clear hst
  have hst := hst4
  have hr3 : RingAt 236 5 (wd.setCells g (first * 5) (advVals [a])) B r (.slice (some ⟨g, 0, none⟩) room cap) room first room xs' :=
    ⟨hS.1.1.1.low, (heap_setCells_other _ _ _ _ _ (Ne.symm HGR.out)).trans hS.1.1.1.row, hS.1.1.1.owns.putMid rfl first (advVals [a]) rfl hf xs' HL.out HX.out, hS.1.1.1.apart, fun h => by omega⟩
  have ht3 := hS.1.1.2.setCells (b := g) (fun _ => .inr rfl) (advVals [a]) (first * 5)
  have hgw := HGW.out
  refine wp_store_mid 27 _ _ rfl g (first * 5) #[.int .i64 a.tick, .int .i64 a.load, .int .i64 a.want, .int .i64 a.repl, .int .i64 a.why] rfl rfl (ring_there hS.1.1.1.owns hf) advSize5 (by simp [Value.oneCell']) ?_
  refine ⟨_, (⟨⟨hr3, ht3⟩, (heap_setCells_other _ _ _ _ _ (by omega)).trans hS.1.2.2, (heap_setCells_other _ _ _ _ _ hXg).trans hS.2⟩), hst4, .inl (by decide), ?_⟩
  clear hS hst4 hr3 ht3
  try simp only [act_norm]
  refine wpAnyE_done (by kernel_rfl) (fun wd hS => ?_) _
  have HS2 := Lib.hid hS
  clear hS HS
  go_wp2_with fail
  refine wp_region_E mixed [13] hst ⟨⟨HS2.out.1.1.same (Nat.le_refl _) rfl (fun _ _ => rfl), HS2.out.1.2.drewN 1⟩, HS2.out.2⟩ ?_
  refine wpAnyE_take 0 rfl (by kernel_rfl) (by kernel_rfl) (by kernel_rfl) (fun _ _ _ h => h) hst (EffB.pure rfl (fun _ => rfl)) (.inr (EffB.pure rfl (fun _ => rfl))) ?_
  simp only [act_norm]
  refine wpAnyE_take 1 rfl (by kernel_rfl) (by kernel_rfl) (by kernel_rfl) (fun _ _ _ h => h) hst (EffB.pure rfl (fun _ => rfl)) (.inr (EffB.pure rfl (fun _ => rfl))) ?_
  simp only [act_norm]
  refine wpAnyE_take 2 (v := .pointer (some ⟨r, 0, none⟩)) rfl (by kernel_rfl) (by kernel_rfl) (by kernel_rfl) (fun _ _ _ h => h) hst (EffB.run rfl rfl (fun wd hS => ?_)) (.inr (EffB.run rfl rfl (fun wd hS => ?_))) ?_
  · (go_wp2; exact ⟨rfl, Below.refl _ _⟩)
  · (go_wp2; exact ⟨rfl, Below.refl _ _⟩)
  simp only [act_norm]
  refine wpAnyE_take 3 (v := .pointer (some ⟨r, 1, none⟩)) rfl (by kernel_rfl) (by kernel_rfl) (by kernel_rfl) (fun _ _ _ h => h) hst (EffB.run rfl rfl (fun wd hS => ?_)) (.inr (EffB.run rfl rfl (fun wd hS => ?_))) ?_
  · (go_wp2; exact ⟨rfl, Below.refl _ _⟩)
  · (go_wp2; exact ⟨rfl, Below.refl _ _⟩)
  simp only [act_norm]
  refine wpAnyE_take 4 (v := .int .i64 first) rfl (by kernel_rfl) (by kernel_rfl) (by kernel_rfl) (fun _ _ _ h => h) hst (EffB.run rfl rfl (fun wd hS => ?_)) (.inl (by kernel_rfl)) ?_
  · (have c2 : wd.cell? ⟨r, 1, none⟩ = some (.int .i64 first) := by rw [cell_of_row _ _ _ _ _ _ (hS.1.1.row)]; rfl); go_wp2; exact ⟨rfl, Below.refl _ _⟩
  simp only [act_norm]
  refine wpAnyE_take 5 (v := .int .i64 ((first : Int) + 1)) rfl (by kernel_rfl) (by kernel_rfl) (by kernel_rfl) (fun _ _ _ h => h) hst (EffB.run rfl rfl (fun wd hS => ?_)) (.inr (EffB.run rfl rfl (fun wd hS => ?_))) ?_
  · (go_wp2; exact ⟨rfl, Below.refl _ _⟩)
  · (go_wp2; exact ⟨rfl, Below.refl _ _⟩)
  simp only [act_norm]
  refine wpAnyE_take 6 rfl (by kernel_rfl) (by kernel_rfl) (by kernel_rfl) (fun _ _ _ h => h) hst (EffB.pure rfl (fun _ => rfl)) (.inr (EffB.pure rfl (fun _ => rfl))) ?_
  simp only [act_norm]
  refine wpAnyE_take 7 (v := .pointer (some ⟨r, 0, none⟩)) rfl (by kernel_rfl) (by kernel_rfl) (by kernel_rfl) (fun _ _ _ h => h) hst (EffB.run rfl rfl (fun wd hS => ?_)) (.inr (EffB.run rfl rfl (fun wd hS => ?_))) ?_
  · (go_wp2; exact ⟨rfl, Below.refl _ _⟩)
  · (go_wp2; exact ⟨rfl, Below.refl _ _⟩)
  simp only [act_norm]
  refine wpAnyE_take 8 (v := .pointer (some ⟨r, 0, none⟩)) rfl (by kernel_rfl) (by kernel_rfl) (by kernel_rfl) (fun _ _ _ h => h) hst (EffB.run rfl rfl (fun wd hS => ?_)) (.inr (EffB.run rfl rfl (fun wd hS => ?_))) ?_
  · (go_wp2; exact ⟨rfl, Below.refl _ _⟩)
  · (go_wp2; exact ⟨rfl, Below.refl _ _⟩)
  simp only [act_norm]
  refine wpAnyE_take 9 (v := .int .i64 room) rfl (by kernel_rfl) (by kernel_rfl) (by kernel_rfl) (fun _ _ _ h => h) hst (EffB.run rfl rfl (fun wd hS => ?_)) (.inl (by kernel_rfl)) ?_
  · (have c2 : wd.cell? ⟨r, 0, none⟩ = some (.int .i64 room) := by rw [cell_of_row _ _ _ _ _ _ (hS.1.1.row)]; rfl); go_wp2; exact ⟨rfl, Below.refl _ _⟩
  simp only [act_norm]
  refine wpAnyE_take 10 (v := .int .i64 (((first : Int) + 1) % room)) rfl (by kernel_rfl) (by kernel_rfl) (by kernel_rfl) (fun _ _ _ h => h) hst (EffB.run rfl rfl (fun wd hS => ?_)) (.inr (EffB.run rfl rfl (fun wd hS => ?_))) ?_
  · (go_wp2; exact ⟨rfl, Below.refl _ _⟩)
  · (go_wp2; exact ⟨rfl, Below.refl _ _⟩)
  simp only [act_norm]
  rw [hm1.out]
  refine wpAnyE_take 11 (v := .pointer (some ⟨r, 0, none⟩)) rfl (by kernel_rfl) (by kernel_rfl) (by kernel_rfl) (fun _ _ _ h => h) hst (EffB.run rfl rfl (fun wd hS => ?_)) (.inr (EffB.run rfl rfl (fun wd hS => ?_))) ?_
  · (go_wp2; exact ⟨rfl, Below.refl _ _⟩)
  · (go_wp2; exact ⟨rfl, Below.refl _ _⟩)
  simp only [act_norm]
  refine wpAnyE_take 12 (v := .pointer (some ⟨r, 1, none⟩)) rfl (by kernel_rfl) (by kernel_rfl) (by kernel_rfl) (fun _ _ _ h => h) hst (EffB.run rfl rfl (fun wd hS => ?_)) (.inr (EffB.run rfl rfl (fun wd hS => ?_))) ?_
  · (go_wp2; exact ⟨rfl, Below.refl _ _⟩)
  · (go_wp2; exact ⟨rfl, Below.refl _ _⟩)
  simp only [act_norm]
  refine wpAnyE_one 13 rfl (by kernel_rfl) rfl (fun wd3 hS => ?_)
  have c3 := hS.1.1.cell1
  have g3 := hS.1.1.free 1
  have hrw := HLT.out
  have hr3 : RingAt 236 5 (wd3.setCell ⟨r, 1, none⟩ (.int .i64 f1)) B r (.slice (some ⟨g, 0, none⟩) room cap) room f1 room xs' :=
    ⟨hS.1.1.low, by rw [heap_setCell_same _ _ _ _ _ _ hS.1.1.row]; rfl, hS.1.1.owns.setOther _ hS.1.1.apart, hS.1.1.apart, fun h => by omega⟩
  have ht3 := hS.1.2.setCell (b := r) (j := 1) (.int .i64 f1) (fun _ => .inl rfl)
  have k1 : (wd3.setCell ⟨r, 1, none⟩ (.int .i64 f1)).heap[w.heap.size + 1]? = some (.cells #[.int .i64 0, .int .i64 0, .int .i64 0, .int .i64 0, .int .i64 0] 27 (0, 0)) := (Below.heap_setCell _ _ _ _ (by show w.heap.size + 1 ≠ r; omega)).trans hS.2.1
  have k2 : (wd3.setCell ⟨r, 1, none⟩ (.int .i64 f1)).heap[X]? = some (.cells #[.int .i64 y.tick, .int .i64 y.load, .int .i64 y.want, .int .i64 y.repl, .int .i64 y.why] 27 (0, 0)) := (Below.heap_setCell _ _ _ _ (by show X ≠ r; omega)).trans hS.2.2
  have X3 := Lib.hid (And.intro (And.intro hr3 ht3) (And.intro k1 k2))
  have hst5 := stab_and (stab_and (stab_ring (TR := 236) (sz := 5) (B := B) (r := r) (v := .slice (some ⟨g, 0, none⟩) room cap) (room := room) (first := f1) (n := room) (xs := xs')) (stab_turned (S := fun k => k = r ∨ (Value.slice (some ⟨g, 0, none⟩) room cap).ownBlock = some k) (w := w))) (stab_and (stab_heap (w.heap.size + 1) (.cells #[.int .i64 0, .int .i64 0, .int .i64 0, .int .i64 0, .int .i64 0] 27 (0, 0))) (stab_heap X (.cells #[.int .i64 y.tick, .int .i64 y.load, .int .i64 y.want, .int .i64 y.repl, .int .i64 y.why] 27 (0, 0))))
  clear hS hst hr3 ht3 k1 k2
  go_wp2
  refine ⟨_, X3.out, hst5, ?_⟩
  clear X3 c3 g3
  try simp only [act_norm]
  refine wpAnyE_done (by kernel_rfl) (fun wd4 hS => ?_) _
  have HS := Lib.hid hS
  have K1 := Lib.hid hS.2.1
  have K2 := Lib.hid hS.2.2
  clear hS HS2
  go_wp2_with (first | ((with_reducible refine wpList_load_rowAs rfl 27 _ rfl (X) ?_ 27 #[.int .i64 y.tick, .int .i64 y.load, .int .i64 y.want, .int .i64 y.repl, .int .i64 y.why] (0, 0) _ 5 ?_ Try.underlying27 rfl (by kernel_rfl) ?_ ?_); exact rfl; exact K2.out; exact rfl) | ((with_reducible refine wpList_store_rowAs rfl 27 _ _ rfl ((w.heap.size + 1)) #[.int .i64 y.tick, .int .i64 y.load, .int .i64 y.want, .int .i64 y.repl, .int .i64 y.why] ?_ ?_ 27 #[.int .i64 0, .int .i64 0, .int .i64 0, .int .i64 0, .int .i64 0] 5 ?_ (by kernel_rfl) rfl rfl (by simp [Value.oneCell']) ?_); exact rfl; exact rfl; exact K1.out))
  have hT := turned_setRow wd4 (w.heap.size + 1) #[.int .i64 y.tick, .int .i64 y.load, .int .i64 y.want, .int .i64 y.repl, .int .i64 y.why]
  have hgw := HGW.out
  exact bodyPost_ret (results_row_tmp rfl _ _ (w.heap.size + 1) 27 #[.int .i64 y.tick, .int .i64 y.load, .int .i64 y.want, .int .i64 y.repl, .int .i64 y.why] (0, 0) _ 5 _ rfl rfl (setRow_heap _ _ _ _ _ _ K1.out) Try.underlying27 rfl advSize5 rfl) rfl ⟨⟨_, rfl⟩, HS.out.1.1.turned hT (by omega) (fun k hk e => by rw [hown] at hk; injection hk with hk; omega), HS.out.1.2.trans hT (fun k hk e => by omega)⟩
end Go.Proofs.Ytapgcbjlgekpeaa

/- Layer 7: slices.Grow and slices.Concat, of decisions. -/
namespace Go.Proofs.Ytapgcbjlgekpeaa
open Go.ChangeShapes Go.WideShapes Go.ChangeAt Go.RowKit



theorem zeroCells_size5 (n : Nat) : (Builtin.zeroCells #[.int .i64 0, .int .i64 0, .int .i64 0, .int .i64 0, .int .i64 0] n).size = n * 5 := by
  unfold Builtin.zeroCells
  simp

set_option maxHeartbeats 1000000 in
set_option maxRecDepth 100000 in
theorem growA_nil (n : Nat) (hn : n ≤ 100000) (w : World) :
    Calls Try.prog 202 #[.slice none 0 0, .int .i64 n] w fun e w' => ∃ v, e = .returned v ∧ Owns w' w.heap.size 5 v 0 [] ∧ Below w.heap.size w w' := by
  by_cases h0 : n = 0
  · subst h0
    go_enter Try.func202, Try.ntmps202
    go_wp2
    go_ret
    exact ⟨_, rfl, owns_nil _ _ _, Below.refl _ _⟩
  · obtain ⟨i0, hi, hz0, hz1, hz2⟩ := info_parts advInfo
    have hrz : ∀ ty, (Builtin.append_ #[38, 3] ty #[.slice none 0 0, .int .i64 n]).run Try.prog w =
        .ok (.slice (some ⟨w.heap.size, 0, none⟩) n (grownCap w n 0 27)) (w.drew.alloc (.cells (#[] ++ Builtin.zeroCells #[.int .i64 0, .int .i64 0, .int .i64 0, .int .i64 0, .int .i64 0] n ++ Builtin.zeroCells #[.int .i64 0, .int .i64 0, .int .i64 0, .int .i64 0, .int .i64 0] (grownCap w n 0 27 - n)) 27)) := fun ty => by
      have h := Lib.run_append_grow_zeros (P := Try.prog) w 38 3 ty 27 i0 (.agg #[.int .i64 0, .int .i64 0, .int .i64 0, .int .i64 0, .int .i64 0]) .i64 .i64 Try.underlying38 Try.underlying3 hi hz0 none 0 0 [] (run_firstCells_none w.drew i0.size 0 0 0) n (by omega) (by rw [hz1]; decide) (by omega) (by omega) (by rw [hz2]; omega)
        (by have := growslice_fits (need := 0 + n) (old := 0) (bytes := i0.bytes) (by omega) (by rw [hz2]; omega); exact this)
      rw [Nat.zero_add] at h
      exact h
    have hG := grownCap_ge w n 0 27
    have hG2 : grownCap w n 0 27 ≤ 9223372036854775807 := by
      have := grownCap_le_maxLen w n 0 27 (by unfold maxLen; omega)
      unfold maxLen at this
      omega
    obtain ⟨G, eG⟩ : ∃ G, G = grownCap w n 0 27 := ⟨_, rfl⟩
    rw [← eG] at hG hG2
    simp only [← eG] at hrz
    clear eG
    have how : Owns (w.drew.alloc (.cells (#[] ++ Builtin.zeroCells #[.int .i64 0, .int .i64 0, .int .i64 0, .int .i64 0, .int .i64 0] n ++ Builtin.zeroCells #[.int .i64 0, .int .i64 0, .int .i64 0, .int .i64 0, .int .i64 0] (G - n)) 27)) w.heap.size 5 (.slice (some ⟨w.heap.size, 0, none⟩) 0 G) 0 [] := by
      refine ⟨rfl, .inr ⟨w.heap.size, G, rfl, Nat.le_refl _, by simp, Nat.zero_le _, fun j u hu => by simp at hu, fun j hj => ?_⟩⟩
      have hh : (w.drew.alloc (.cells (#[] ++ Builtin.zeroCells #[.int .i64 0, .int .i64 0, .int .i64 0, .int .i64 0, .int .i64 0] n ++ Builtin.zeroCells #[.int .i64 0, .int .i64 0, .int .i64 0, .int .i64 0, .int .i64 0] (G - n)) 27)).heap[w.heap.size]? = some (.cells (#[] ++ Builtin.zeroCells #[.int .i64 0, .int .i64 0, .int .i64 0, .int .i64 0, .int .i64 0] n ++ Builtin.zeroCells #[.int .i64 0, .int .i64 0, .int .i64 0, .int .i64 0, .int .i64 0] (G - n)) 27 (0, 0)) := heap_alloc_at _ _ _ rfl
      refine ⟨?_, frozen_of_row _ _ _ _ _ hh⟩
      rw [cell_of_row _ _ _ _ _ _ hh]
      rw [Array.getElem?_eq_getElem (by simp [zeroCells_size5]; omega)]
      rfl
    have HOW := Lib.hid how
    have HB : Hid (Below w.heap.size w (w.drew.alloc (.cells (#[] ++ Builtin.zeroCells #[.int .i64 0, .int .i64 0, .int .i64 0, .int .i64 0, .int .i64 0] n ++ Builtin.zeroCells #[.int .i64 0, .int .i64 0, .int .i64 0, .int .i64 0, .int .i64 0] (G - n)) 27))) := ((Below.refl _ w).drew).alloc (Nat.le_refl _) _
    clear hi hz0 hz1 hz2 i0 how
    obtain ⟨W, hW⟩ : ∃ W, W = (w.drew.alloc (.cells (#[] ++ Builtin.zeroCells #[.int .i64 0, .int .i64 0, .int .i64 0, .int .i64 0, .int .i64 0] n ++ Builtin.zeroCells #[.int .i64 0, .int .i64 0, .int .i64 0, .int .i64 0, .int .i64 0] (G - n)) 27)) := ⟨_, rfl⟩
    rw [← hW] at HOW HB
    simp only [← hW] at hrz
    clear hW
    have hz := Lib.hid hrz
    clear hrz
    go_enter Try.func202, Try.ntmps202
    go_wp2_with (at_builtin; refine Lib.wpList_append_run _ rfl _ _ _ _ rfl _ _ rfl rfl _ _ (hz.out _) ?_)
    go_ret
    exact ⟨_, rfl, HOW.out, HB.out⟩


set_option maxHeartbeats 2000000 in
set_option maxRecDepth 100000 in
theorem concatA (bo : Nat) (s1 s2 : Value) (n1 n2 : Nat) (l1 l2 : List Value) (hb : n1 + n2 ≤ 4096) (ho1 : ∀ u ∈ l1, u.oneCell' = true) (ho2 : ∀ u ∈ l2, u.oneCell' = true) (w : World)
    (hbo : w.heap[bo]? = some (.cells #[s1, s2] 38 (0, 0))) (h1 : Src w s1 n1 5 l1) (h2 : Src w s2 n2 5 l2) :
    Calls Try.prog 199 #[.slice (some ⟨bo, 0, none⟩) 2 2] w fun e w' => ∃ v, e = .returned v ∧ Owns w' w.heap.size 5 v (n1 + n2) (l1 ++ l2) ∧ Below w.heap.size w w' := by
  have hg0 := growA_nil (n1 + n2) (by omega)
  rw [show ((n1 + n2 : Nat) : Int) = (n1 : Int) + n2 by omega] at hg0
  have hg := Lib.hid hg0
  clear hg0
  obtain ⟨p1, c1, rfl, hl1, hz1, hs1⟩ := h1
  obtain ⟨p2, c2, rfl, hl2, hz2, hs2⟩ := h2
  have hblt := lt_of_heap hbo
  have a0 : w.cell? ⟨bo, 0, none⟩ = some (.slice p1 n1 c1) := by rw [cell_of_row _ _ _ _ _ _ hbo]; rfl
  have a1 : w.cell? ⟨bo, 1, none⟩ = some (.slice p2 n2 c2) := by rw [cell_of_row _ _ _ _ _ _ hbo]; rfl
  have HS1 : Hid (Src w (.slice p1 n1 c1) n1 5 l1) := ⟨p1, c1, rfl, hl1, hz1, hs1⟩
  have HS2 : Hid (Src w (.slice p2 n2 c2) n2 5 l2) := ⟨p2, c2, rfl, hl2, hz2, hs2⟩
  have HBO := Lib.hid hbo
  have HO1 := Lib.hid ho1
  have HO2 := Lib.hid ho2
  have HL1 := Lib.hid hl1
  have HL2 := Lib.hid hl2
  clear hl1 hz1 hs1 hl2 hz2 hs2 hbo ho1 ho2
  go_enter Try.func199, Try.ntmps199
  go_wp2
  go_loop [3, 11] (fun s i => ∃ k : Nat, k ≤ 2 ∧ i = .int .i64 k ∧ s = .int .i64 (sum2 n1 n2 k)) (fun _ i => 2 - (intOf i).toNat)
  case atStart => exact ⟨0, by omega, rfl, rfl⟩
  case round =>
    obtain ⟨k, hk, rfl, rfl⟩ := hrel
    obtain rfl | rfl | rfl : k = 0 ∨ k = 1 ∨ k = 2 := by omega
    · have e0 : sum2 n1 n2 0 = 0 := rfl
      rw [e0]
      clear hk
      go_wp2
      exact ⟨⟨1, by omega, by go_num, by rfl⟩, by simp [intOf]⟩
    · have e0 : sum2 n1 n2 1 = n1 := rfl
      rw [e0]
      clear hk
      go_wp2
      exact ⟨⟨2, by omega, by go_num, by rfl⟩, by simp [intOf]⟩
    · have e0 : sum2 n1 n2 2 = n1 + n2 := rfl
      rw [e0]
      clear hk e0
      go_wp2_with fail
      (with_reducible refine (hg.out _).mono ?_)
      rintro e w1 ⟨v, rfl, hO, hB⟩
      have HO := Lib.hid hO
      have HB := Lib.hid hB
      clear hO hB
      go_wp2
      go_loopw [6, 27] (fun u i wr => ∃ k : Nat, k ≤ 2 ∧ i = .int .i64 k ∧ Owns wr w.heap.size 5 u (sum2 n1 n2 k) (cat2 l1 l2 k) ∧ Below w.heap.size w wr) (fun _ i _ => 2 - (intOf i).toNat)
      case atStart => exact ⟨0, by omega, rfl, HO.out, HB.out⟩
      case round =>
        obtain ⟨k, hk, rfl, hO, hB⟩ := hrel
        have O := Lib.hid hO
        have BB := Lib.hid hB
        obtain rfl | rfl | rfl : k = 0 ∨ k = 1 ∨ k = 2 := by omega
        · have b0 : wr.cell? ⟨bo, 0, none⟩ = some (.slice p1 n1 c1) := (hB.cell (p := ⟨bo, 0, none⟩) hblt).trans a0
          have S1 := HS1.out.below hB
          obtain ⟨p', c', e', _, hz1, hs1⟩ := S1
          obtain ⟨rfl, rfl⟩ : p' = p1 ∧ c' = c1 := by simp at e'; exact ⟨e'.1.symm, e'.2.symm⟩
          have HN := Lib.hid hz1
          have HC := Lib.hid (fun ad h => (hs1 ad h).2)
          clear hO hB hk hz1 hs1 e'
          go_wp2_with (at_builtin; refine wpList_append_any2 rfl _ _ 38 rfl w.heap.size 27 (.agg #[.int .i64 0, .int .i64 0, .int .i64 0, .int .i64 0, .int .i64 0]) 5 40 Try.underlying38 advInfo rfl (by decide) _ _ _ rfl O.out _ _ _ l1 rfl (by rw [HL1.out]) HN.out HC.out HO1.out (by unfold maxLen; simp [sum2]; omega) (by simp [sum2]; omega) BB.out.size ?_; intro u1 x1 ha1 hg1 hw1)
          exact ⟨⟨1, by omega, by go_num, by simpa [sum2, cat2] using ha1, BB.out.grown hg1 BB.out.size (fun k hk => (O.out.lt k hk).1)⟩, by simp [intOf]⟩
        · have b0 : wr.cell? ⟨bo, 1, none⟩ = some (.slice p2 n2 c2) := (hB.cell (p := ⟨bo, 1, none⟩) hblt).trans a1
          have S1 := HS2.out.below hB
          obtain ⟨p', c', e', _, hz1, hs1⟩ := S1
          obtain ⟨rfl, rfl⟩ : p' = p2 ∧ c' = c2 := by simp at e'; exact ⟨e'.1.symm, e'.2.symm⟩
          have HN := Lib.hid hz1
          have HC := Lib.hid (fun ad h => (hs1 ad h).2)
          clear hO hB hk hz1 hs1 e'
          go_wp2_with (at_builtin; refine wpList_append_any2 rfl _ _ 38 rfl w.heap.size 27 (.agg #[.int .i64 0, .int .i64 0, .int .i64 0, .int .i64 0, .int .i64 0]) 5 40 Try.underlying38 advInfo rfl (by decide) _ _ _ rfl O.out _ _ _ l2 rfl (by rw [HL2.out]) HN.out HC.out HO2.out (by unfold maxLen; simp [sum2]; omega) (by simp [sum2]; omega) BB.out.size ?_; intro u1 x1 ha1 hg1 hw1)
          exact ⟨⟨2, by omega, by go_num, by simpa [sum2, cat2] using ha1, BB.out.grown hg1 BB.out.size (fun k hk => (O.out.lt k hk).1)⟩, by simp [intOf]⟩
        · clear hO hB
          go_wp2
          go_ret
          exact ⟨_, rfl, O.out, BB.out⟩
theorem Owns.src5 {w : World} {B n : Nat} {g cap : Nat} {xs : List Value} (h : Owns w B 5 (.slice (some ⟨g, 0, none⟩) n cap) n xs) (first : Nat) (hf : first ≤ n) :
    Src w (.slice (some ⟨g, first * 5, none⟩) (n - first) (cap - first)) (n - first) 5 (xs.drop (first * 5)) ∧ Src w (.slice (some ⟨g, 0, none⟩) first cap) first 5 (xs.take (first * 5)) := by
  obtain ⟨hl, h⟩ := h
  rcases h with ⟨h1, _⟩ | ⟨g', cap', h1, h2, h3, h4, h5, h6⟩
  · simp at h1
  · simp only [Value.slice.injEq, Option.some.injEq, Addr.mk.injEq, and_true, true_and] at h1
    obtain ⟨rfl, rfl⟩ := h1
    refine ⟨⟨_, _, rfl, by rw [List.length_drop]; omega, by simp, fun ad had => ?_⟩, ⟨_, _, rfl, by rw [List.length_take]; omega, by simp, fun ad had => ?_⟩⟩
    · obtain rfl : ad = ⟨g, first * 5, none⟩ := by simpa using had.symm
      refine ⟨h3, fun j u hu => ?_⟩
      rw [List.getElem?_drop] at hu
      rw [Addr.add_mid]
      exact h5 _ _ hu
    · obtain rfl : ad = ⟨g, 0, none⟩ := by simpa using had.symm
      refine ⟨h3, fun j u hu => ?_⟩
      have hj : j < first * 5 := by have := (List.getElem?_eq_some_iff.1 hu).1; rw [List.length_take] at this; omega
      rw [List.getElem?_take_of_lt hj] at hu
      rw [Addr.add_mid, Nat.zero_add]
      exact h5 _ _ hu

set_option maxHeartbeats 2000000 in
set_option maxRecDepth 100000 in
theorem ringA_all_nil (w : World) : Calls Try.prog 193 #[.pointer none] w (AllOf 200 38 w 0 5 []) := by
  go_enter Try.func193, Try.ntmps193
  go_wp2
  go_ret
  exact ⟨w.heap.size, _, rfl, Nat.le_refl _, (by first | (with_reducible exact heap_1_0 _ _) | (with_reducible exact heap_2_0 _ _ _) | (with_reducible exact heap_2_1 _ _ _) | (with_reducible exact heap_3_0 _ _ _ _) | (with_reducible exact heap_3_1 _ _ _ _) | (with_reducible exact heap_3_2 _ _ _ _) | (with_reducible exact heap_4_0 _ _ _ _ _) | (with_reducible exact heap_4_1 _ _ _ _ _) | (with_reducible exact heap_4_2 _ _ _ _ _) | (with_reducible exact heap_4_3 _ _ _ _ _) | (with_reducible exact heap_5_0 _ _ _ _ _ _) | (with_reducible exact heap_5_1 _ _ _ _ _ _) | (with_reducible exact heap_5_2 _ _ _ _ _ _) | (with_reducible exact heap_5_3 _ _ _ _ _ _) | (with_reducible exact heap_5_4 _ _ _ _ _ _) | (with_reducible exact heap_6_0 _ _ _ _ _ _ _) | (with_reducible exact heap_6_1 _ _ _ _ _ _ _) | (with_reducible exact heap_6_2 _ _ _ _ _ _ _) | (with_reducible exact heap_6_3 _ _ _ _ _ _ _) | (with_reducible exact heap_6_4 _ _ _ _ _ _ _) | (with_reducible exact heap_6_5 _ _ _ _ _ _ _) | simp only [heap_alloc_past, heap_alloc_at, World.size_alloc, Nat.add_assoc, Nat.reduceAdd, Nat.lt_add_right_iff_pos, Nat.add_lt_add_iff_left, Nat.reduceLT, Nat.zero_lt_succ, Nat.lt_add_one]), owns_nil _ _ _, below1 _ _⟩

set_option maxHeartbeats 2000000 in
set_option maxRecDepth 100000 in
theorem ringA_all_some {w : World} {B r g cap : Nat} {room first n : Nat} {xs : List Value} (h : RingAt 236 5 w B r (.slice (some ⟨g, 0, none⟩) n cap) room first n xs) (hn : n ≤ 4096) (hf : first < n) (hcap : n ≤ cap) (h1 : ∀ u ∈ xs, u.oneCell' = true) :
    Calls Try.prog 193 #[.pointer (some ⟨r, 0, none⟩)] w (AllOf 200 38 w n 5 (rot (first * 5) xs)) := by
  have H := Lib.hid h
  have H1 := Lib.hid h1
  have hst := stab_and (stab_and (stab_ring (TR := 236) (sz := 5) (B := B) (r := r) (v := .slice (some ⟨g, 0, none⟩) n cap) (room := room) (first := first) (n := n) (xs := xs)) (stab_heap w.heap.size (.cells #[.slice none 0 0] 38 (0, 0)))) (stab_below (B := w.heap.size) (w0 := w) (Nat.le_refl _))
  clear h h1
  go_enter Try.func193, Try.ntmps193
  go_wp2
  refine wp_region_E mixed [20] hst ⟨⟨(H.out.below (below1 _ _)).same (Nat.le_refl _) rfl (fun _ _ => rfl), heap_alloc_at _ _ _ rfl⟩, below_drew (below1 _ _)⟩ ?_
  refine wpAnyE_take 0 rfl (by kernel_rfl) (by kernel_rfl) (by kernel_rfl) (fun _ _ _ h => h) hst (EffB.pure rfl (fun _ => rfl)) (.inr (EffB.pure rfl (fun _ => rfl))) ?_
  simp only [act_norm]
  refine wpAnyE_take 1 (v := .pointer (some ⟨r, 0, none⟩)) rfl (by kernel_rfl) (by kernel_rfl) (by kernel_rfl) (fun _ _ _ h => h) hst (EffB.run rfl rfl (fun wd hS => ?_)) (.inr (EffB.run rfl rfl (fun wd hS => ?_))) ?_
  · (go_wp2; exact ⟨rfl, Below.refl _ _⟩)
  · (go_wp2; exact ⟨rfl, Below.refl _ _⟩)
  simp only [act_norm]
  refine wpAnyE_take 2 (v := .pointer (some ⟨r, 2, none⟩)) rfl (by kernel_rfl) (by kernel_rfl) (by kernel_rfl) (fun _ _ _ h => h) hst (EffB.run rfl rfl (fun wd hS => ?_)) (.inr (EffB.run rfl rfl (fun wd hS => ?_))) ?_
  · (go_wp2; exact ⟨rfl, Below.refl _ _⟩)
  · (go_wp2; exact ⟨rfl, Below.refl _ _⟩)
  simp only [act_norm]
  refine wpAnyE_take 3 (v := .slice (some ⟨g, 0, none⟩) n cap) rfl (by kernel_rfl) (by kernel_rfl) (by kernel_rfl) (fun _ _ _ h => h) hst (EffB.run rfl rfl (fun wd hS => ?_)) (.inl (by kernel_rfl)) ?_
  · (have c2 : wd.cell? ⟨r, 2, none⟩ = some (.slice (some ⟨g, 0, none⟩) n cap) := by rw [cell_of_row _ _ _ _ _ _ (hS.1.1.row)]; rfl); go_wp2; exact ⟨rfl, Below.refl _ _⟩
  simp only [act_norm]
  refine wpAnyE_take 4 rfl (by kernel_rfl) (by kernel_rfl) (by kernel_rfl) (fun _ _ _ h => h) hst (EffB.pure rfl (fun _ => rfl)) (.inr (EffB.pure rfl (fun _ => rfl))) ?_
  simp only [act_norm]
  refine wpAnyE_take 5 (v := .pointer (some ⟨r, 0, none⟩)) rfl (by kernel_rfl) (by kernel_rfl) (by kernel_rfl) (fun _ _ _ h => h) hst (EffB.run rfl rfl (fun wd hS => ?_)) (.inr (EffB.run rfl rfl (fun wd hS => ?_))) ?_
  · (go_wp2; exact ⟨rfl, Below.refl _ _⟩)
  · (go_wp2; exact ⟨rfl, Below.refl _ _⟩)
  simp only [act_norm]
  refine wpAnyE_take 6 (v := .pointer (some ⟨r, 1, none⟩)) rfl (by kernel_rfl) (by kernel_rfl) (by kernel_rfl) (fun _ _ _ h => h) hst (EffB.run rfl rfl (fun wd hS => ?_)) (.inr (EffB.run rfl rfl (fun wd hS => ?_))) ?_
  · (go_wp2; exact ⟨rfl, Below.refl _ _⟩)
  · (go_wp2; exact ⟨rfl, Below.refl _ _⟩)
  simp only [act_norm]
  refine wpAnyE_take 7 (v := .int .i64 first) rfl (by kernel_rfl) (by kernel_rfl) (by kernel_rfl) (fun _ _ _ h => h) hst (EffB.run rfl rfl (fun wd hS => ?_)) (.inl (by kernel_rfl)) ?_
  · (have c2 : wd.cell? ⟨r, 1, none⟩ = some (.int .i64 first) := by rw [cell_of_row _ _ _ _ _ _ (hS.1.1.row)]; rfl); go_wp2; exact ⟨rfl, Below.refl _ _⟩
  simp only [act_norm]
  refine wpAnyE_take 8 (v := .slice (some ⟨g, first * 5, none⟩) (n - first) (cap - first)) rfl (by kernel_rfl) (by kernel_rfl) (by kernel_rfl) (fun _ _ _ h => h) hst (EffB.run rfl rfl (fun wd hS => ?_)) (.inr (EffB.run rfl rfl (fun wd hS => ?_))) ?_
  · (go_wp2; exact ⟨rfl, Below.refl _ _⟩)
  · (go_wp2; exact ⟨rfl, Below.refl _ _⟩)
  simp only [act_norm]
  refine wpAnyE_take 9 rfl (by kernel_rfl) (by kernel_rfl) (by kernel_rfl) (fun _ _ _ h => h) hst (EffB.pure rfl (fun _ => rfl)) (.inr (EffB.pure rfl (fun _ => rfl))) ?_
  simp only [act_norm]
  refine wpAnyE_take 10 (v := .pointer (some ⟨r, 0, none⟩)) rfl (by kernel_rfl) (by kernel_rfl) (by kernel_rfl) (fun _ _ _ h => h) hst (EffB.run rfl rfl (fun wd hS => ?_)) (.inr (EffB.run rfl rfl (fun wd hS => ?_))) ?_
  · (go_wp2; exact ⟨rfl, Below.refl _ _⟩)
  · (go_wp2; exact ⟨rfl, Below.refl _ _⟩)
  simp only [act_norm]
  refine wpAnyE_take 11 (v := .pointer (some ⟨r, 2, none⟩)) rfl (by kernel_rfl) (by kernel_rfl) (by kernel_rfl) (fun _ _ _ h => h) hst (EffB.run rfl rfl (fun wd hS => ?_)) (.inr (EffB.run rfl rfl (fun wd hS => ?_))) ?_
  · (go_wp2; exact ⟨rfl, Below.refl _ _⟩)
  · (go_wp2; exact ⟨rfl, Below.refl _ _⟩)
  simp only [act_norm]
  refine wpAnyE_take 12 (v := .slice (some ⟨g, 0, none⟩) n cap) rfl (by kernel_rfl) (by kernel_rfl) (by kernel_rfl) (fun _ _ _ h => h) hst (EffB.run rfl rfl (fun wd hS => ?_)) (.inl (by kernel_rfl)) ?_
  · (have c2 : wd.cell? ⟨r, 2, none⟩ = some (.slice (some ⟨g, 0, none⟩) n cap) := by rw [cell_of_row _ _ _ _ _ _ (hS.1.1.row)]; rfl); go_wp2; exact ⟨rfl, Below.refl _ _⟩
  simp only [act_norm]
  refine wpAnyE_take 13 rfl (by kernel_rfl) (by kernel_rfl) (by kernel_rfl) (fun _ _ _ h => h) hst (EffB.pure rfl (fun _ => rfl)) (.inr (EffB.pure rfl (fun _ => rfl))) ?_
  simp only [act_norm]
  refine wpAnyE_take 14 (v := .pointer (some ⟨r, 0, none⟩)) rfl (by kernel_rfl) (by kernel_rfl) (by kernel_rfl) (fun _ _ _ h => h) hst (EffB.run rfl rfl (fun wd hS => ?_)) (.inr (EffB.run rfl rfl (fun wd hS => ?_))) ?_
  · (go_wp2; exact ⟨rfl, Below.refl _ _⟩)
  · (go_wp2; exact ⟨rfl, Below.refl _ _⟩)
  simp only [act_norm]
  refine wpAnyE_take 15 (v := .pointer (some ⟨r, 1, none⟩)) rfl (by kernel_rfl) (by kernel_rfl) (by kernel_rfl) (fun _ _ _ h => h) hst (EffB.run rfl rfl (fun wd hS => ?_)) (.inr (EffB.run rfl rfl (fun wd hS => ?_))) ?_
  · (go_wp2; exact ⟨rfl, Below.refl _ _⟩)
  · (go_wp2; exact ⟨rfl, Below.refl _ _⟩)
  simp only [act_norm]
  refine wpAnyE_take 16 (v := .int .i64 first) rfl (by kernel_rfl) (by kernel_rfl) (by kernel_rfl) (fun _ _ _ h => h) hst (EffB.run rfl rfl (fun wd hS => ?_)) (.inl (by kernel_rfl)) ?_
  · (have c2 : wd.cell? ⟨r, 1, none⟩ = some (.int .i64 first) := by rw [cell_of_row _ _ _ _ _ _ (hS.1.1.row)]; rfl); go_wp2; exact ⟨rfl, Below.refl _ _⟩
  simp only [act_norm]
  refine wpAnyE_take 17 (v := .slice (some ⟨g, 0, none⟩) first cap) rfl (by kernel_rfl) (by kernel_rfl) (by kernel_rfl) (fun _ _ _ h => h) hst (EffB.run rfl rfl (fun wd hS => ?_)) (.inr (EffB.run rfl rfl (fun wd hS => ?_))) ?_
  · (go_wp2; exact ⟨rfl, Below.refl _ _⟩)
  · (go_wp2; exact ⟨rfl, Below.refl _ _⟩)
  simp only [act_norm]
  refine wpAnyE_one 18 rfl (by kernel_rfl) rfl (fun wd hS => ?_)
  have hso := Owns.src5 hS.1.1.owns first (by omega)
  have hst2 := stab_and (stab_and (stab_and hst (stab_heap wd.heap.size (.cells #[.slice (some ⟨g, first * 5, none⟩) (n - first) (cap - first), .slice (some ⟨g, 0, none⟩) first cap] 38 (0, 0)))) (stab_src (s := .slice (some ⟨g, first * 5, none⟩) (n - first) (cap - first)) (n := n - first) (sz := 5) (xs := xs.drop (first * 5)))) (stab_src (s := .slice (some ⟨g, 0, none⟩) first cap) (n := first) (sz := 5) (xs := xs.take (first * 5)))
  have X1 : Hid (((((RingAt 236 5 (wd.alloc (.cells #[.slice (some ⟨g, first * 5, none⟩) (n - first) (cap - first), .slice (some ⟨g, 0, none⟩) first cap] 38)) B r (.slice (some ⟨g, 0, none⟩) n cap) room first n xs ∧ (wd.alloc (.cells #[.slice (some ⟨g, first * 5, none⟩) (n - first) (cap - first), .slice (some ⟨g, 0, none⟩) first cap] 38)).heap[w.heap.size]? = some (.cells #[.slice none 0 0] 38 (0, 0))) ∧ Below w.heap.size w (wd.alloc (.cells #[.slice (some ⟨g, first * 5, none⟩) (n - first) (cap - first), .slice (some ⟨g, 0, none⟩) first cap] 38)))
    ∧ (wd.alloc (.cells #[.slice (some ⟨g, first * 5, none⟩) (n - first) (cap - first), .slice (some ⟨g, 0, none⟩) first cap] 38)).heap[wd.heap.size]? = some (.cells #[.slice (some ⟨g, first * 5, none⟩) (n - first) (cap - first), .slice (some ⟨g, 0, none⟩) first cap] 38 (0, 0)))
    ∧ Src (wd.alloc (.cells #[.slice (some ⟨g, first * 5, none⟩) (n - first) (cap - first), .slice (some ⟨g, 0, none⟩) first cap] 38)) (.slice (some ⟨g, first * 5, none⟩) (n - first) (cap - first)) (n - first) 5 (xs.drop (first * 5)))
    ∧ Src (wd.alloc (.cells #[.slice (some ⟨g, first * 5, none⟩) (n - first) (cap - first), .slice (some ⟨g, 0, none⟩) first cap] 38)) (.slice (some ⟨g, 0, none⟩) first cap) first 5 (xs.take (first * 5))) := ⟨⟨⟨hst _ _ hS (below1 _ _), heap_alloc_at _ _ _ rfl⟩, hso.1.below (below1 _ _)⟩, hso.2.below (below1 _ _)⟩
  clear hS hso
  go_wp2
  refine ⟨_, X1.out, hst2, fun _ h => h.1.1.1, ?_⟩
  obtain ⟨X, hX⟩ : ∃ X, wd.heap.size = X := ⟨_, rfl⟩
  rw [hX] at hst2 ⊢
  clear X1 hst hX
  try simp only [act_norm]
  refine wpAnyE_one 19 rfl (by kernel_rfl) rfl (fun wd2 hS => ?_)
  go_wp2_with fail
  (with_reducible refine (concatA X _ _ (n - first) first (xs.drop (first * 5)) (xs.take (first * 5)) (by omega) (fun u hu => H1.out u (List.mem_of_mem_drop hu)) (fun u hu => H1.out u (List.mem_of_mem_take hu)) wd2 hS.1.1.2 hS.1.2 hS.2).mono ?_)
  rintro e w5 ⟨u, rfl, hO, hb5⟩
  rw [Nat.sub_add_cancel (by omega)] at hO
  have hO2 : Owns w5 (w.heap.size + 1) 5 u n (rot (first * 5) xs) := hO.mono (lt_of_heap hS.1.1.1.1.2)
  obtain ⟨pu, cu, rfl, _⟩ := hO.sl
  have hst3 := stab_and hst2 (stab_owns (B := w.heap.size + 1) (sz := 5) (v := .slice pu n cu) (n := n) (xs := rot (first * 5) xs))
  refine ⟨_, ⟨hst2 _ _ hS hb5, hO2⟩, hst3, (by first | exact fun _ h => h.1 | exact .inr fun _ h => h.1), ?_⟩
  clear hS hO hO2 hb5 hst2
  try simp only [act_norm]
  refine wpAnyE_one 20 rfl (by kernel_rfl) rfl (fun wd3 hS => ?_)
  have k1 := hS.1.1.1.1.1.2
  have c1 : wd3.cell? ⟨w.heap.size, 0, none⟩ = some (.slice none 0 0) := by rw [cell_of_row _ _ _ _ _ _ k1]; rfl
  have g1 := frozen_of_row _ _ 0 _ _ k1
  have k2 : (wd3.setCell ⟨w.heap.size, 0, none⟩ (.slice pu n cu)).heap[w.heap.size]? = some (.cells #[.slice pu n cu] 38 (0, 0)) := by rw [heap_setCell_same _ _ _ _ _ _ k1]; rfl
  have o2 : Owns (wd3.setCell ⟨w.heap.size, 0, none⟩ (.slice pu n cu)) (w.heap.size + 1) 5 (.slice pu n cu) n (rot (first * 5) xs) := hS.2.setOther _ (fun e => by have := (hS.2.lt _ e).1; omega)
  have b2 : Below w.heap.size w (wd3.setCell ⟨w.heap.size, 0, none⟩ (.slice pu n cu)) := hS.1.1.1.1.2.setCell (Nat.le_refl _) _
  have X2 := Lib.hid (And.intro (And.intro k2 o2) b2)
  clear hS k1 k2 o2 b2 hst3
  go_wp2
  refine ⟨_, X2.out, stab_and (stab_and (stab_heap _ _) stab_owns) (stab_below (Nat.le_refl _)), ?_⟩
  try simp only [act_norm]
  clear X2 c1 g1
  refine wpAnyE_done (by kernel_rfl) (fun wd4 hS => ?_) _
  go_wp2
  go_ret
  exact ⟨w.heap.size, _, rfl, Nat.le_refl _, hS.1.1, hS.1.2, hS.2⟩

set_option maxHeartbeats 2000000 in
set_option maxRecDepth 100000 in
theorem ringA_all_zero {w : World} {B r : Nat} {room first : Nat} (h : RingAt 236 5 w B r (.slice none 0 0) room first 0 []) (hf : first = 0) :
    Calls Try.prog 193 #[.pointer (some ⟨r, 0, none⟩)] w (AllOf 200 38 w 0 5 []) := by
  subst hf
  have H := Lib.hid h
  have hst := stab_and (stab_and (stab_ring (TR := 236) (sz := 5) (B := B) (r := r) (v := .slice none 0 0) (room := room) (first := 0) (n := 0) (xs := [])) (stab_heap w.heap.size (.cells #[.slice none 0 0] 38 (0, 0)))) (stab_below (B := w.heap.size) (w0 := w) (Nat.le_refl _))
  clear h
  go_enter Try.func193, Try.ntmps193
  go_wp2
  refine wp_region_E mixed [20] hst ⟨⟨(H.out.below (below1 _ _)).same (Nat.le_refl _) rfl (fun _ _ => rfl), heap_alloc_at _ _ _ rfl⟩, below_drew (below1 _ _)⟩ ?_
  refine wpAnyE_take 0 rfl (by kernel_rfl) (by kernel_rfl) (by kernel_rfl) (fun _ _ _ h => h) hst (EffB.pure rfl (fun _ => rfl)) (.inr (EffB.pure rfl (fun _ => rfl))) ?_
  simp only [act_norm]
  refine wpAnyE_take 1 (v := .pointer (some ⟨r, 0, none⟩)) rfl (by kernel_rfl) (by kernel_rfl) (by kernel_rfl) (fun _ _ _ h => h) hst (EffB.run rfl rfl (fun wd hS => ?_)) (.inr (EffB.run rfl rfl (fun wd hS => ?_))) ?_
  · (go_wp2; exact ⟨rfl, Below.refl _ _⟩)
  · (go_wp2; exact ⟨rfl, Below.refl _ _⟩)
  simp only [act_norm]
  refine wpAnyE_take 2 (v := .pointer (some ⟨r, 2, none⟩)) rfl (by kernel_rfl) (by kernel_rfl) (by kernel_rfl) (fun _ _ _ h => h) hst (EffB.run rfl rfl (fun wd hS => ?_)) (.inr (EffB.run rfl rfl (fun wd hS => ?_))) ?_
  · (go_wp2; exact ⟨rfl, Below.refl _ _⟩)
  · (go_wp2; exact ⟨rfl, Below.refl _ _⟩)
  simp only [act_norm]
  refine wpAnyE_take 3 (v := .slice none 0 0) rfl (by kernel_rfl) (by kernel_rfl) (by kernel_rfl) (fun _ _ _ h => h) hst (EffB.run rfl rfl (fun wd hS => ?_)) (.inl (by kernel_rfl)) ?_
  · (have c2 : wd.cell? ⟨r, 2, none⟩ = some (.slice none 0 0) := by rw [cell_of_row _ _ _ _ _ _ (hS.1.1.row)]; rfl); go_wp2; exact ⟨rfl, Below.refl _ _⟩
  simp only [act_norm]
  refine wpAnyE_take 4 rfl (by kernel_rfl) (by kernel_rfl) (by kernel_rfl) (fun _ _ _ h => h) hst (EffB.pure rfl (fun _ => rfl)) (.inr (EffB.pure rfl (fun _ => rfl))) ?_
  simp only [act_norm]
  refine wpAnyE_take 5 (v := .pointer (some ⟨r, 0, none⟩)) rfl (by kernel_rfl) (by kernel_rfl) (by kernel_rfl) (fun _ _ _ h => h) hst (EffB.run rfl rfl (fun wd hS => ?_)) (.inr (EffB.run rfl rfl (fun wd hS => ?_))) ?_
  · (go_wp2; exact ⟨rfl, Below.refl _ _⟩)
  · (go_wp2; exact ⟨rfl, Below.refl _ _⟩)
  simp only [act_norm]
  refine wpAnyE_take 6 (v := .pointer (some ⟨r, 1, none⟩)) rfl (by kernel_rfl) (by kernel_rfl) (by kernel_rfl) (fun _ _ _ h => h) hst (EffB.run rfl rfl (fun wd hS => ?_)) (.inr (EffB.run rfl rfl (fun wd hS => ?_))) ?_
  · (go_wp2; exact ⟨rfl, Below.refl _ _⟩)
  · (go_wp2; exact ⟨rfl, Below.refl _ _⟩)
  simp only [act_norm]
  refine wpAnyE_take 7 (v := .int .i64 0) rfl (by kernel_rfl) (by kernel_rfl) (by kernel_rfl) (fun _ _ _ h => h) hst (EffB.run rfl rfl (fun wd hS => ?_)) (.inl (by kernel_rfl)) ?_
  · (have c2 : wd.cell? ⟨r, 1, none⟩ = some (.int .i64 0) := by rw [cell_of_row _ _ _ _ _ _ (hS.1.1.row)]; rfl); go_wp2; exact ⟨rfl, Below.refl _ _⟩
  simp only [act_norm]
  refine wpAnyE_take 8 (v := .slice none 0 0) rfl (by kernel_rfl) (by kernel_rfl) (by kernel_rfl) (fun _ _ _ h => h) hst (EffB.run rfl rfl (fun wd hS => ?_)) (.inr (EffB.run rfl rfl (fun wd hS => ?_))) ?_
  · (go_wp2; exact ⟨rfl, Below.refl _ _⟩)
  · (go_wp2; exact ⟨rfl, Below.refl _ _⟩)
  simp only [act_norm]
  refine wpAnyE_take 9 rfl (by kernel_rfl) (by kernel_rfl) (by kernel_rfl) (fun _ _ _ h => h) hst (EffB.pure rfl (fun _ => rfl)) (.inr (EffB.pure rfl (fun _ => rfl))) ?_
  simp only [act_norm]
  refine wpAnyE_take 10 (v := .pointer (some ⟨r, 0, none⟩)) rfl (by kernel_rfl) (by kernel_rfl) (by kernel_rfl) (fun _ _ _ h => h) hst (EffB.run rfl rfl (fun wd hS => ?_)) (.inr (EffB.run rfl rfl (fun wd hS => ?_))) ?_
  · (go_wp2; exact ⟨rfl, Below.refl _ _⟩)
  · (go_wp2; exact ⟨rfl, Below.refl _ _⟩)
  simp only [act_norm]
  refine wpAnyE_take 11 (v := .pointer (some ⟨r, 2, none⟩)) rfl (by kernel_rfl) (by kernel_rfl) (by kernel_rfl) (fun _ _ _ h => h) hst (EffB.run rfl rfl (fun wd hS => ?_)) (.inr (EffB.run rfl rfl (fun wd hS => ?_))) ?_
  · (go_wp2; exact ⟨rfl, Below.refl _ _⟩)
  · (go_wp2; exact ⟨rfl, Below.refl _ _⟩)
  simp only [act_norm]
  refine wpAnyE_take 12 (v := .slice none 0 0) rfl (by kernel_rfl) (by kernel_rfl) (by kernel_rfl) (fun _ _ _ h => h) hst (EffB.run rfl rfl (fun wd hS => ?_)) (.inl (by kernel_rfl)) ?_
  · (have c2 : wd.cell? ⟨r, 2, none⟩ = some (.slice none 0 0) := by rw [cell_of_row _ _ _ _ _ _ (hS.1.1.row)]; rfl); go_wp2; exact ⟨rfl, Below.refl _ _⟩
  simp only [act_norm]
  refine wpAnyE_take 13 rfl (by kernel_rfl) (by kernel_rfl) (by kernel_rfl) (fun _ _ _ h => h) hst (EffB.pure rfl (fun _ => rfl)) (.inr (EffB.pure rfl (fun _ => rfl))) ?_
  simp only [act_norm]
  refine wpAnyE_take 14 (v := .pointer (some ⟨r, 0, none⟩)) rfl (by kernel_rfl) (by kernel_rfl) (by kernel_rfl) (fun _ _ _ h => h) hst (EffB.run rfl rfl (fun wd hS => ?_)) (.inr (EffB.run rfl rfl (fun wd hS => ?_))) ?_
  · (go_wp2; exact ⟨rfl, Below.refl _ _⟩)
  · (go_wp2; exact ⟨rfl, Below.refl _ _⟩)
  simp only [act_norm]
  refine wpAnyE_take 15 (v := .pointer (some ⟨r, 1, none⟩)) rfl (by kernel_rfl) (by kernel_rfl) (by kernel_rfl) (fun _ _ _ h => h) hst (EffB.run rfl rfl (fun wd hS => ?_)) (.inr (EffB.run rfl rfl (fun wd hS => ?_))) ?_
  · (go_wp2; exact ⟨rfl, Below.refl _ _⟩)
  · (go_wp2; exact ⟨rfl, Below.refl _ _⟩)
  simp only [act_norm]
  refine wpAnyE_take 16 (v := .int .i64 0) rfl (by kernel_rfl) (by kernel_rfl) (by kernel_rfl) (fun _ _ _ h => h) hst (EffB.run rfl rfl (fun wd hS => ?_)) (.inl (by kernel_rfl)) ?_
  · (have c2 : wd.cell? ⟨r, 1, none⟩ = some (.int .i64 0) := by rw [cell_of_row _ _ _ _ _ _ (hS.1.1.row)]; rfl); go_wp2; exact ⟨rfl, Below.refl _ _⟩
  simp only [act_norm]
  refine wpAnyE_take 17 (v := .slice none 0 0) rfl (by kernel_rfl) (by kernel_rfl) (by kernel_rfl) (fun _ _ _ h => h) hst (EffB.run rfl rfl (fun wd hS => ?_)) (.inr (EffB.run rfl rfl (fun wd hS => ?_))) ?_
  · (go_wp2; exact ⟨rfl, Below.refl _ _⟩)
  · (go_wp2; exact ⟨rfl, Below.refl _ _⟩)
  simp only [act_norm]
  refine wpAnyE_one 18 rfl (by kernel_rfl) rfl (fun wd hS => ?_)
  have hst2 := stab_and hst (stab_heap wd.heap.size (.cells #[.slice none 0 0, .slice none 0 0] 38 (0, 0)))
  have x1 := hst _ _ hS (below1 wd (.cells #[.slice none 0 0, .slice none 0 0] 38))
  have X1 := Lib.hid (And.intro x1 (heap_alloc_at wd (.cells #[.slice none 0 0, .slice none 0 0] 38) wd.heap.size rfl))
  clear hS x1
  go_wp2
  refine ⟨_, X1.out, hst2, fun _ h => h.1, ?_⟩
  obtain ⟨X, hX⟩ : ∃ X, wd.heap.size = X := ⟨_, rfl⟩
  rw [hX] at hst2 ⊢
  clear X1 hst hX
  try simp only [act_norm]
  refine wpAnyE_one 19 rfl (by kernel_rfl) rfl (fun wd2 hS => ?_)
  go_wp2_with fail
  (with_reducible refine (concatA X _ _ 0 0 [] [] (by omega) (fun u hu => by simp at hu) (fun u hu => by simp at hu) wd2 hS.2 (src_nil _ _) (src_nil _ _)).mono ?_)
  rintro e w5 ⟨u, rfl, hO, hb5⟩
  have hO2 : Owns w5 (w.heap.size + 1) 5 u 0 [] := hO.mono (lt_of_heap hS.1.1.2)
  obtain ⟨pu, cu, rfl, _⟩ := hO2.sl
  have hst3 := stab_and hst2 (stab_owns (B := w.heap.size + 1) (sz := 5) (v := .slice pu 0 cu) (n := 0) (xs := []))
  refine ⟨_, ⟨hst2 _ _ hS hb5, hO2⟩, hst3, (by first | exact fun _ h => h.1 | exact .inr fun _ h => h.1), ?_⟩
  clear hS hO hO2 hb5 hst2
  try simp only [act_norm]
  refine wpAnyE_one 20 rfl (by kernel_rfl) rfl (fun wd3 hS => ?_)
  have k1 := hS.1.1.1.2
  have c1 : wd3.cell? ⟨w.heap.size, 0, none⟩ = some (.slice none 0 0) := by rw [cell_of_row _ _ _ _ _ _ k1]; rfl
  have g1 := frozen_of_row _ _ 0 _ _ k1
  have k2 : (wd3.setCell ⟨w.heap.size, 0, none⟩ (.slice pu 0 cu)).heap[w.heap.size]? = some (.cells #[.slice pu 0 cu] 38 (0, 0)) := by rw [heap_setCell_same _ _ _ _ _ _ k1]; rfl
  have o2 : Owns (wd3.setCell ⟨w.heap.size, 0, none⟩ (.slice pu 0 cu)) (w.heap.size + 1) 5 (.slice pu 0 cu) 0 [] := hS.2.setOther _ (fun e => by have := (hS.2.lt _ e).1; omega)
  have b2 : Below w.heap.size w (wd3.setCell ⟨w.heap.size, 0, none⟩ (.slice pu 0 cu)) := hS.1.1.2.setCell (Nat.le_refl _) _
  have X2 := Lib.hid (And.intro (And.intro k2 o2) b2)
  clear hS k1 k2 o2 b2 hst3
  go_wp2
  refine ⟨_, X2.out, stab_and (stab_and (stab_heap _ _) stab_owns) (stab_below (Nat.le_refl _)), ?_⟩
  try simp only [act_norm]
  clear X2 c1 g1
  refine wpAnyE_done (by kernel_rfl) (fun wd4 hS => ?_) _
  go_wp2
  go_ret
  exact ⟨w.heap.size, _, rfl, Nat.le_refl _, hS.1.1, hS.1.2, hS.2⟩

/-- All things of a ring. -/
theorem ringA_all {w : World} {B r : Nat} {v : Value} {room first n : Nat} {xs : List Value} (h : RingAt 236 5 w B r v room first n xs) (hn : n ≤ 4096) (hf : first < n ∨ first = 0) (h1 : ∀ u ∈ xs, u.oneCell' = true) :
    Calls Try.prog 193 #[.pointer (some ⟨r, 0, none⟩)] w (AllOf 200 38 w n 5 (rot (first * 5) xs)) := by
  by_cases h0 : n = 0
  · subst h0
    obtain rfl : first = 0 := by omega
    obtain rfl := h.void rfl
    obtain rfl : xs = [] := List.eq_nil_of_length_eq_zero (by simpa using h.owns.1)
    exact ringA_all_zero h rfl
  · obtain ⟨g, cap, rfl, _, _, _, hc⟩ := h.slice (by omega)
    exact ringA_all_some h hn (by omega) hc h1
end Go.Proofs.Ytapgcbjlgekpeaa

/- Layer 14: a ring of decisions as a list: the loop over all things. -/
namespace Go.Proofs.Ytapgcbjlgekpeaa
open Go.ChangeShapes Go.WideShapes Go.ChangeAt Go.RowKit Go.Shelf

attribute [local go_sem] Oper.semAt_some

theorem Advs.keeps {W W' : World} {p : Option Addr} {b : Nat} {l : List Adv} (h : Advs W p l) (hp : ∀ ad, p = some ad → ad.block = b) (hk : KeepsAt b W W') : Advs W' p l := by
  rcases h with h0 | ⟨b', off, e, hb, hc⟩
  · exact .inl h0
  · obtain rfl : b' = b := hp _ e
    refine .inr ⟨b', off, e, ?_, fun j hj => hk.cell.trans (hc j hj)⟩
    have h1 : W'.heap[b']? = W.heap[b']? := hk
    rw [Array.getElem?_eq_getElem hb] at h1
    exact lt_of_heap h1
theorem KeepsAt.alloc {b : Nat} (W : World) (o : Obj) (hb : b < W.heap.size) : KeepsAt b W (W.alloc o) := heap_alloc_past _ _ _ hb

set_option maxRecDepth 100000 in
set_option maxHeartbeats 2000000 in
theorem ringA_all1_in (F : Fence) (n : Nat) (h7 : F.fn 200) (hro : F.round = none) (hn : 1 ≤ n) (l Bs b : Nat) (p : Option Addr) (cap : Nat) (zs : List Adv) (hlen : zs.length ≤ 9223372036854775807) (J Jx : List Adv → World → Prop)
    (W : World) (hJ : AbidesFrom W.heap.size J)
    (hY : ∀ pre x W, J pre W → pre.length < zs.length → YieldAt F (n - 1) Try.prog l #[.agg #[.int .i64 x.tick, .int .i64 x.load, .int .i64 x.want, .int .i64 x.repl, .int .i64 x.why]] W fun e W' =>
      (e = .returned (.bool true) ∧ J (pre ++ [x]) W' ∧ KeepsAt b W W') ∨ (e = .returned (.bool false) ∧ Jx (pre ++ [x]) W'))
    (hb : b < W.heap.size) (hBs : W.cell? ⟨Bs, 0, none⟩ = some (.slice p zs.length cap)) (hp : Advs W p zs) (hpb : ∀ ad, p = some ad → ad.block = b) (h0 : J [] W) :
    CallsIn F n Try.prog 200 #[.func (.yield l) #[] #[], .pointer (some ⟨Bs, 0, none⟩)] W fun e W' => (∃ v, e = .returned v) ∧
      ((∃ ys, ys = upto (fun j => zs[j]?.getD default) zs.length ∧ J ys W') ∨ (∃ pre, (∃ k, k ≤ zs.length ∧ pre = upto (fun j => zs[j]?.getD default) k) ∧ Jx pre W')) := by
  have HP := Lib.hid hp
  have HPB := Lib.hid hpb
  have HJ := Lib.hid hJ
  have HB := Lib.hid hb
  obtain ⟨len, elen⟩ : ∃ n, n = zs.length := ⟨_, rfl⟩
  have EL := Lib.hid elen
  rw [← elen] at hlen hBs ⊢
  simp only [← elen] at hY
  clear hp elen hpb hJ hb
  refine callsIn_of_wp Try.func200 rfl h7 ?_ hro
  simp only [Try.ntmps200, List.size_toArray, List.length_cons, List.length_nil, Nat.reduceAdd, Nat.reduceSub, Array.replicate_succ, Array.replicate_zero, List.push_toArray, List.append_toArray, List.nil_append, List.cons_append]
  gi_wp2
  gi_loopw [7] (fun i wr => ∃ k : Nat, k ≤ len ∧ i = .int .i64 k ∧ J (upto (fun j => zs[j]?.getD default) k) wr ∧ KeepsAt b W wr)
    (fun i _ => len - (intOf i).toNat)
  case atStart => exact ⟨0, Nat.zero_le _, rfl, h0, rfl⟩
  case round =>
    obtain ⟨k, hk, rfl, hJs, hnx⟩ := hrel
    by_cases hlt : k < len
    · have hA := HP.out.keeps HPB.out hnx
      obtain ⟨b1, off, rfl, hbw, c0, c1, c2, c3, c4⟩ := hA.cells k (by have := EL.out; omega)
      obtain ⟨x, ex⟩ : ∃ x, x = zs[k]?.getD default := ⟨_, rfl⟩
      rw [← ex] at c0 c1 c2 c3 c4
      have hJ2 : J (upto (fun j => zs[j]?.getD default) k) (wr.alloc (.cells #[.int .i64 x.tick, .int .i64 x.load, .int .i64 x.want, .int .i64 x.repl, .int .i64 x.why] 27)) := HJ.out _ _ _ none hJs (World.grownBy_alloc wr _ none) (fun r e => by cases e)
      obtain ⟨fn, tmps, assign, body, hy, hR⟩ := hY _ x _ hJ2 (by rw [upto_length]; exact hlt)
      have HU := Lib.hid (upto_succ (fun j => zs[j]?.getD default) k)
      have HK : Hid (KeepsAt b wr (wr.alloc (.cells #[.int .i64 x.tick, .int .i64 x.load, .int .i64 x.want, .int .i64 x.repl, .int .i64 x.why] 27))) := KeepsAt.alloc _ _ (by obtain rfl : b1 = b := HPB.out _ rfl; exact hbw)
      rw [← ex] at HU
      have HNX := Lib.hid hnx
      have HR := Lib.hid hR
      have HJs := Lib.hid hJs
      clear hA hJs hJ2 hnx hR ex
      gi_wp2
      refine HR.out.mono ?_
      rintro e W3 (⟨rfl, hJ3, hk3⟩ | ⟨rfl, hJx3⟩)
      · gi_wp2
        go_roundw
        case rel => exact ⟨k + 1, by omega, by simp, by rw [HU.out]; exact hJ3, (HNX.out.trans HK.out).trans hk3⟩
        case measure => simp [intOf]; omega
      · gi_wp2
        refine bodyPost_ret (results_none rfl _ _ _) rfl ?_
        exact ⟨⟨_, rfl⟩, .inr ⟨_, ⟨k + 1, by omega, HU.out.symm⟩, hJx3⟩⟩
    · obtain rfl : k = len := by omega
      gi_wp2
      go_end0
      exact ⟨⟨_, rfl⟩, .inl ⟨_, rfl, hJs⟩⟩

theorem ringA_all_stops (F : Fence) (n : Nat) (h7 : F.fn 200) (hro : F.round = none) (hn : 1 ≤ n) (Bs b : Nat) (p : Option Addr) (cap : Nat) (zs : List Adv) (hlen : zs.length ≤ 9223372036854775807) (w : World) (hBs : Bs < w.heap.size) (hb : b < w.heap.size)
    (hc : w.cell? ⟨Bs, 0, none⟩ = some (.slice p zs.length cap)) (hp : Advs w p zs) (hpb : ∀ ad, p = some ad → ad.block = b) :
    SeqStopsK F n Try.prog 200 #[.pointer (some ⟨Bs, 0, none⟩)] (fun x : Adv => #[.agg #[.int .i64 x.tick, .int .i64 x.load, .int .i64 x.want, .int .i64 x.repl, .int .i64 x.why]]) (KeepsAt b) (fun ys => ys = zs) (fun pre => pre <+: zs) zs.length w := fun l J Jx W hW hJ _ hY h0 => by
  have hc' := (hW.cell (p := ⟨Bs, 0, none⟩) hBs).trans hc
  refine (ringA_all1_in F n h7 hro hn l Bs b p cap zs hlen J Jx W hJ hY (Nat.lt_of_lt_of_le hb hW.size) hc' (hp.below hW) hpb h0).mono ?_
  rintro e W' ⟨he, ⟨ys, rfl, hj⟩ | ⟨pre, ⟨k, hk, rfl⟩, hj⟩⟩
  · exact ⟨he, .inl ⟨_, upto_all zs default, hj⟩⟩
  · exact ⟨he, .inr ⟨_, by rw [upto_take zs default hk]; exact List.take_prefix _ _, hj⟩⟩

set_option maxRecDepth 100000 in
set_option maxHeartbeats 2000000 in
theorem ringA_list_of {w : World} {q : Option Addr} (zs : List Adv) (hz : zs.length ≤ 4096)
    (hall : ∀ w', Below w.heap.size w w' → Calls Try.prog 193 #[.pointer q] w' (AllOf 200 38 w' zs.length 5 (advVals zs))) :
    Calls Try.prog 176 #[.pointer q] w fun e w' => ∃ v, e = .returned v ∧ Owns w' w.heap.size 5 v zs.length (advVals zs) ∧ Below w.heap.size w w' := by
  refine (callsIn_wide (n := 3)).1 ?_
  have hro : Fence.wide.round = none := rfl
  have h1 : 1 ≤ 3 := by omega
  obtain ⟨i0, hi, hz0, hz1, hz2⟩ := info_parts advInfo
  have HALL := Lib.hid (hall _ (below1 w (.cells #[.slice none 0 0] 38)))
  clear hall
  refine callsIn_of_wp_marks Try.func176 rfl trivial ?_ hro
  simp only [Try.ntmps176, List.size_toArray, List.length_cons, List.length_nil, Nat.reduceAdd, Nat.reduceSub, Array.replicate_succ, Array.replicate_zero, List.push_toArray, List.append_toArray, List.nil_append, List.cons_append]
  gi_wp2_with (refine ⟨trivial, ?_⟩; gi_at_call 193; refine (callsIn_wide.2 HALL.out).mono ?_; rintro e w2 ⟨Bn, u, rfl, hBn, hk, hO, hb2⟩)
  have bO : Boxed w2 w.heap.size 38 (.slice none 0 0) := (hb2.block _ (by simp)).trans (heap_alloc_at _ _ _ rfl)
  have hB0 : Below w.heap.size w w2 := (below1 w _).trans (hb2.mono (by simp))
  have hBnw : Bn < w2.heap.size := lt_of_heap hk
  have hcB : w2.cell? ⟨Bn, 0, none⟩ = some u := by rw [cell_of_row _ _ _ _ _ _ hk]; rfl
  simp only [World.size_alloc] at hBn
  obtain ⟨p, cap, rfl, hcap, hA⟩ := advs_of_owns hO
  obtain ⟨b, hbw, hbn, hp⟩ : ∃ b, b < w2.heap.size ∧ w.heap.size < b ∧ ∀ ad, p = some ad → ad.block = b := by
    rcases hO.2 with ⟨h, h0⟩ | ⟨g, cap', h0, h2, h3, _, h5, _⟩
    · refine ⟨Bn, hBnw, by omega, fun ad had => ?_⟩
      simp at h; rw [h.1] at had; cases had
    · refine ⟨g, h3, by omega, fun ad had => ?_⟩
      simp at h0; rw [h0.1] at had; cases had; rfl
  clear hO hk hb2
  have hrow0 : w2.ownsRow w2.heap.size 27 5 (.slice none 0 0) 0 [] := World.ownsRow_nil _ _ _ _
  refine wpIn_rangeFunc_ownH hro h1 (gf := 200) (lb := #[.pointer (some ⟨Bn, 0, none⟩)]) rfl trivial (enters_of Try.func200 (by kernel_rfl) rfl)
    (ringA_all_stops Fence.wide (3 - 1) trivial hro (by omega) Bn b p cap zs (by omega) w2 hBnw hbw hcB hA hp) KeepsAt.trans (fun W l o o' hl _ _ _ => KeepsAt.put hbw hl) (Below.refl _ _) (fun _ => rfl)
    (fun pre W => (∃ v, Boxed W w.heap.size 38 v ∧ W.ownsRow w2.heap.size 27 5 v pre.length (advVals pre) ∧ True) ∧ Below w.heap.size w W ∧ Below 0 w2 W)
    (fun _ _ _ => False)
    (OwnFrom.and (Own.from (holdsRow_own w2.heap.size w.heap.size 38 27 5 (fun pre => pre.length) (fun pre => advVals pre) (fun _ _ => True)) _) (OwnFrom.and (ownFrom_below (Nat.le_refl _) hB0.size) (ownFrom_below (Nat.zero_le _) (Nat.zero_le _))))
    (fun _ _ _ _ _ hs _ _ => hs)
    ⟨⟨_, bO, hrow0, trivial⟩, hB0, Below.refl _ _⟩
    (fun x a' W => ∃ X, a' = { tmps := #[.pointer q, undef, .slice none 0 0, .pointer (some ⟨w.heap.size, 0, none⟩), .pointer (some ⟨X, 0, none⟩), .pointer q, .func (.func 200) #[] #[.pointer (some ⟨Bn, 0, none⟩)], .agg #[.int .i64 x.tick, .int .i64 x.load, .int .i64 x.want, .int .i64 x.repl, .int .i64 x.why], undef, undef, undef, undef, undef], defers := [] } ∧ W.heap[X]? = some (.cells #[.int .i64 x.tick, .int .i64 x.load, .int .i64 x.want, .int .i64 x.repl, .int .i64 x.why] 27 (0, 0)))
    (fun x a' _ W W' row hs hg hr => by
      obtain ⟨X, h1, h2⟩ := hs
      exact ⟨X, h1, (grownBy_keeps_cells hg (fun r e => (hr r e).2) h2 rfl).trans h2⟩)
    ?assign ?body ?done ?stop
  case assign =>
    intro l pre x W K hI hK
    have hI' := hI
    obtain ⟨_, _, hB2⟩ := hI'
    have hWs := hB2.size
    have hG := hK { tmps := #[.pointer q, undef, .slice none 0 0, .pointer (some ⟨w.heap.size, 0, none⟩), .pointer (some ⟨W.heap.size, 0, none⟩), .pointer q, .func (.func 200) #[] #[.pointer (some ⟨Bn, 0, none⟩)], .agg #[.int .i64 x.tick, .int .i64 x.load, .int .i64 x.want, .int .i64 x.repl, .int .i64 x.why], undef, undef, undef, undef, undef], defers := [] } (W.alloc (.cells #[.int .i64 x.tick, .int .i64 x.load, .int .i64 x.want, .int .i64 x.repl, .int .i64 x.why] 27)) ((KeepsOthers.alloc W _).from _) (KeepsAt.alloc _ _ (by omega)) ((OwnFrom.and (Own.from (holdsRow_own w2.heap.size w.heap.size 38 27 5 (fun pre => pre.length) (fun pre => advVals pre) (fun _ _ => True)) _) (OwnFrom.and (ownFrom_below (Nat.le_refl _) hB0.size) (ownFrom_below (Nat.zero_le _) (Nat.zero_le _)))).alloc _ hI) ⟨W.heap.size, rfl, heap_alloc_at _ _ _ rfl⟩
    clear hI hK hB2
    gi_wp2
    exact hG
  case body =>
    rintro l pre x a' W _ _ ⟨⟨v, hv, hrow, _⟩, hB, hB2⟩ ⟨X, rfl, hX⟩ hlt
    have hc := hv.cell
    have hWs : w2.heap.size ≤ W.heap.size := hB2.size
    have x0 : W.cell? ⟨X, 0, none⟩ = some (.int .i64 x.tick) := by rw [cell_of_row _ _ _ _ _ _ hX]; rfl
    have x1 : W.cell? ⟨X, 0 + 1, none⟩ = some (.int .i64 x.load) := by rw [cell_of_row _ _ _ _ _ _ hX]; rfl
    have x2 : W.cell? ⟨X, 0 + 2, none⟩ = some (.int .i64 x.want) := by rw [cell_of_row _ _ _ _ _ _ hX]; rfl
    have x3 : W.cell? ⟨X, 0 + 3, none⟩ = some (.int .i64 x.repl) := by rw [cell_of_row _ _ _ _ _ _ hX]; rfl
    have x4 : W.cell? ⟨X, 0 + 4, none⟩ = some (.int .i64 x.why) := by rw [cell_of_row _ _ _ _ _ _ hX]; rfl
    simp only [Nat.zero_add] at x1 x2 x3 x4
    clear hX
    gi_wp2_with (gi_at_builtin; refine wpListIn_append_own _ rfl _ _ 38 rfl w2.heap.size 27 i0 (.agg #[.int .i64 0, .int .i64 0, .int .i64 0, .int .i64 0, .int .i64 0]) 5 40 Try.underlying38 hi hz0 hz1 hz2 rfl (by decide) _ _ _ rfl (hrow.alloc _) ⟨W.heap.size, 0, none⟩ 1 1 (advVals [x]) rfl rfl (fun j u hu => by rw [Addr.add_mid, Nat.zero_add, cell_of_row _ _ _ _ _ _ (heap_alloc_at _ _ _ rfl)]; simpa [advVals] using hu) (advVals_one1 x) (by unfold maxLen; omega) (by omega) (by simp; omega) ?_; intro v' w1 hown' hgrow _; obtain ⟨g', cap', rfl⟩ := ownsRow_succ hown'; obtain ⟨hv1, hv2, hr2, hk2, hb2, hka⟩ := appended2 hv (by decide) hrow hWs hB0.size (Nat.le_refl _) hown' hgrow; have hc1 := hv1.cell; have hf1 := hv1.frozen)
    exact ⟨hk2.from _, hka b hbw (by omega), ⟨_, hv2, by rw [advVals_append, List.length_append]; exact hr2, trivial⟩, hB.trans hb2, hB2.trans (hb2.mono (Nat.zero_le _))⟩
  case done =>
    rintro D ys W hD rfl ⟨⟨v, hv, hrow, _⟩, hB, hB2⟩ hK
    have hc := hv.cell
    gi_wp2
    refine ⟨by simp, .inl ⟨_, _, rfl, run_takeDeferred hK, ?_⟩⟩
    exact ⟨_, results_tmp rfl _ _ _, v, rfl, (owns_of_row (ownsRow_putObj hrow _ hK rfl)).mono hB0.size, hB.trans (belowK_b (w := w) (Nat.le_refl _) W D _ _ (Nat.le_trans hB0.size hD) hK rfl rfl)⟩
  case stop =>
    rintro D c pre W _ _ h _
    exact h.elim
end Go.Proofs.Ytapgcbjlgekpeaa
