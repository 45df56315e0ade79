/- Layer 14: a history. -/
import Derived.Test.YtildjnibdappnaaRingA7
namespace Go.Proofs.Ytildjnibdappnaa
open Go.ChangeShapes Go.WideShapes Go.ChangeAt Go.RowKit

/-- A history that has L, in order. -/
structure HistA (w : World) (B h r : Nat) (v : Value) (room : Nat) (L : List Adv) : Prop where
  low : B ≤ h
  row : w.heap[h]? = some (.cells #[.pointer (some ⟨r, 0, none⟩)] 81 (0, 0))
  ring : RingA w B r v room L
  apart : h ≠ r
  apart2 : v.ownBlock ≠ some h
section
variable {w w' : World} {B h r : Nat} {v : Value} {room : Nat} {L : List Adv}
theorem HistA.below (H : HistA w B h r v room L) (hb : Below w.heap.size w w') : HistA w' B h r v room L := ⟨H.low, (hb.block _ (lt_of_heap H.row)).trans H.row, H.ring.below hb, H.apart, H.apart2⟩
theorem HistA.turned {S : Nat → Prop} (H : HistA w B h r v room L) (hb : Turned S w w') (h0 : ¬ S h) (h1 : ¬ S r) (h2 : ∀ k, v.ownBlock = some k → ¬ S k) : HistA w' B h r v room L :=
  ⟨H.low, (hb.block _ (lt_of_heap H.row) h0).trans H.row, H.ring.turned hb h1 h2, H.apart, H.apart2⟩
theorem HistA.cell (H : HistA w B h r v room L) : w.cell? ⟨h, 0, none⟩ = some (.pointer (some ⟨r, 0, none⟩)) := by rw [cell_of_row _ _ _ _ _ _ H.row]; rfl
theorem HistA.lift {B' : Nat} (H : HistA w B h r v room L) (hB : B' ≤ B) : HistA w B' h r v room L := by
  obtain ⟨f, ys, g1, g2⟩ := H.ring
  exact ⟨Nat.le_trans hB H.low, H.row, ⟨f, ys, ⟨Nat.le_trans hB g1.low, g1.row, g1.owns.mono hB, g1.apart, g1.void⟩, g2⟩, H.apart, H.apart2⟩
theorem stab_hist : Stab (fun w' => HistA w' B h r v room L) := fun _ _ h hb => h.below hb
theorem HistA.pushed (H : HistA w B h r v room L) (hB : B ≤ w.heap.size) (ht : Turned (fun k => k = r ∨ v.ownBlock = some k) w w') : Below B w w' := H.ring.pushed hB ht
end

theorem hist_new_no (room : Int) (h : room < 1 ∨ 64 < room) (w : World) : Calls Try.prog 13 #[.int .i64 room] w fun e w' => e = .returned (.pointer none) ∧ w = w' := by
  by_cases h1 : room < 1
  · clear h
    go_enter Try.func13, Try.ntmps13
    go_wp2
    go_ret
    exact ⟨rfl, rfl⟩
  · have h2 : 64 < room := by omega
    clear h
    go_enter Try.func13, Try.ntmps13
    go_wp2
    go_ret
    exact ⟨rfl, rfl⟩
theorem hist_new (room : Nat) (h1 : 1 ≤ room) (h2 : room ≤ 64) (w : World) : Calls Try.prog 13 #[.int .i64 room] w fun e w' => ∃ h r, e = .returned (.pointer (some ⟨h, 0, none⟩)) ∧ HistA w' w.heap.size h r (.slice none 0 0) room [] ∧ Below w.heap.size w w' := by
  have g := Lib.hid (ringA_made room h1 (by omega))
  have d1 : decide ((room : Int) < 1) = false := decide_eq_false (by omega)
  have d2 : decide ((64 : Int) < room) = false := decide_eq_false (by omega)
  go_enter Try.func13, Try.ntmps13
  go_wp2_with fail
  (with_reducible refine (g.out _).mono ?_)
  rintro e w1 ⟨r, rfl, hr, hb⟩
  have R := Lib.hid hr
  have B1 := Lib.hid hb
  clear hr hb
  go_wp2
  go_ret
  have hlt := R.out.lt
  exact ⟨_, r, rfl, ⟨B1.out.size, heap_alloc_at _ _ _ rfl, R.out.below (below1 _ _), by omega, by simp [Value.ownBlock]⟩, B1.out.alloc B1.out.size _⟩

theorem hist_kept_nil (w : World) : Calls Try.prog 48 #[.pointer none] w fun e w' => e = .returned (.pointer none) ∧ w = w' := by
  go_enter Try.func48, Try.ntmps48
  go_wp2
  go_ret
  exact ⟨rfl, rfl⟩
theorem hist_kept {w : World} {B h r : Nat} {v : Value} {room : Nat} {L : List Adv} (H : HistA w B h r v room L) : Calls Try.prog 48 #[.pointer (some ⟨h, 0, none⟩)] w fun e w' => e = .returned (.pointer (some ⟨r, 0, none⟩)) ∧ w = w' := by
  have c := H.cell
  clear H
  go_enter Try.func48, Try.ntmps48
  go_wp2
  go_ret
  exact ⟨rfl, rfl⟩
theorem hist_len_nil (w : World) : Calls Try.prog 16 #[.pointer none] w fun e w' => e = .returned (.int .i64 0) ∧ w = w' := by
  have h1 := Lib.hid hist_kept_nil
  have h2 := Lib.hid ringA_len_nil
  go_enter Try.func16, Try.ntmps16
  go_wp2_with (first | ((with_reducible refine (h1.out _).mono ?_); rintro e w1 ⟨rfl, rfl⟩) | ((with_reducible refine (h2.out _).mono ?_); rintro e w1 ⟨rfl, rfl⟩))
  go_ret
  exact ⟨rfl, rfl⟩
theorem hist_len {w : World} {B h r : Nat} {v : Value} {room : Nat} {L : List Adv} (H : HistA w B h r v room L) : Calls Try.prog 16 #[.pointer (some ⟨h, 0, none⟩)] w fun e w' => e = .returned (.int .i64 L.length) ∧ w = w' := by
  have h1 := Lib.hid (hist_kept H)
  have h2 := Lib.hid (ringA_lenOf H.ring)
  clear H
  go_enter Try.func16, Try.ntmps16
  go_wp2_with (first | ((with_reducible refine h1.out.mono ?_); rintro e w1 ⟨rfl, rfl⟩) | ((with_reducible refine h2.out.mono ?_); rintro e w1 ⟨rfl, rfl⟩))
  go_ret
  exact ⟨rfl, rfl⟩
theorem hist_list_nil (w : World) : Calls Try.prog 17 #[.pointer none] w fun e w' => ∃ p c, e = .returned (.slice p 0 c) ∧ Below w.heap.size w w' := by
  have h1 := Lib.hid hist_kept_nil
  have h2 := Lib.hid ringA_listNil
  go_enter Try.func17, Try.ntmps17
  go_wp2_with (first | ((with_reducible refine (h1.out _).mono ?_); rintro e w1 ⟨rfl, rfl⟩) | ((with_reducible refine (h2.out _).mono ?_); rintro e w1 ⟨p, c, rfl, hb⟩))
  go_ret
  exact ⟨p, c, rfl, hb⟩
theorem hist_list {w : World} {B h r : Nat} {v : Value} {room : Nat} {L : List Adv} (H : HistA w B h r v room L) : Calls Try.prog 17 #[.pointer (some ⟨h, 0, none⟩)] w fun e w' => ∃ p c, e = .returned (.slice p L.length c) ∧ L.length ≤ c ∧ Advs w' p L ∧ Below w.heap.size w w' := by
  have h1 := Lib.hid (hist_kept H)
  have h2 := Lib.hid (ringA_list H.ring)
  clear H
  go_enter Try.func17, Try.ntmps17
  go_wp2_with (first | ((with_reducible refine h1.out.mono ?_); rintro e w1 ⟨rfl, rfl⟩) | ((with_reducible refine h2.out.mono ?_); rintro e w1 ⟨p, c, rfl, hc, hs, hb⟩))
  go_ret
  exact ⟨p, c, rfl, hc, hs, hb⟩

set_option maxRecDepth 100000 in
theorem hist_last_nil (w : World) : Calls Try.prog 14 #[.pointer none] w fun e w' => e = .returned (.tuple #[.agg #[.int .i64 0, .int .i64 0, .int .i64 0, .int .i64 0, .int .i64 0], .bool false]) ∧ Below w.heap.size w w' := by
  have h1 := Lib.hid hist_kept_nil
  have h2 := Lib.hid ringA_last_nil
  have M0 : Hid (Mem w (w.alloc (.cells #[.int .i64 0, .int .i64 0, .int .i64 0, .int .i64 0, .int .i64 0] 24)) [(w.heap.size, .cells #[.int .i64 0, .int .i64 0, .int .i64 0, .int .i64 0, .int .i64 0] 24)]) := (Mem.start w).alloc _
  go_enter Try.func14, Try.ntmps14
  go_wp2_with ((with_reducible refine (h1.out _).mono ?_); rintro e w1 ⟨rfl, rfl⟩)
  (with_reducible refine (h2.out _).mono ?_)
  rintro e w2 ⟨rfl, hb⟩
  have M1 := Lib.hid (M0.out.call hb)
  have K0 := Lib.hid (M1.out.heap 0 rfl)
  clear hb M0
  go_wp2_with ((with_reducible refine wpList_store_rowAs rfl 24 _ _ rfl (w.heap.size) #[.int .i64 0, .int .i64 0, .int .i64 0, .int .i64 0, .int .i64 0] ?_ ?_ 24 #[.int .i64 0, .int .i64 0, .int .i64 0, .int .i64 0, .int .i64 0] 5 ?_ (by kernel_rfl) rfl rfl (by simp [Value.oneCell']) ?_); exact rfl; exact rfl; exact K0.out)
  exact bodyPost_ret (results_row_tmp rfl _ _ w.heap.size 24 #[.int .i64 0, .int .i64 0, .int .i64 0, .int .i64 0, .int .i64 0] (0, 0) _ 5 _ rfl rfl ((M1.out.setRow 0 rfl).heap 0 rfl) Try.underlying24 rfl advSize5 rfl) rfl ⟨rfl, (M1.out.setRow 0 rfl).below⟩
set_option maxRecDepth 100000 in
theorem hist_last {w : World} {B h r : Nat} {v : Value} {room : Nat} {L : List Adv} (H : HistA w B h r v room L) (hl : 0 < L.length) (y : Adv) (hy : L[L.length - 1]? = some y) :
    Calls Try.prog 14 #[.pointer (some ⟨h, 0, none⟩)] w fun e w' => e = .returned (.tuple #[.agg #[.int .i64 y.tick, .int .i64 y.load, .int .i64 y.want, .int .i64 y.repl, .int .i64 y.why], .bool true]) ∧ Below w.heap.size w w' := by
  have HH := H.below (below1 w (.cells #[.int .i64 0, .int .i64 0, .int .i64 0, .int .i64 0, .int .i64 0] 24))
  have h1 := Lib.hid (hist_kept HH)
  have h2 := Lib.hid (ringA_last HH.ring hl y hy)
  have M0 : Hid (Mem w (w.alloc (.cells #[.int .i64 0, .int .i64 0, .int .i64 0, .int .i64 0, .int .i64 0] 24)) [(w.heap.size, .cells #[.int .i64 0, .int .i64 0, .int .i64 0, .int .i64 0, .int .i64 0] 24)]) := (Mem.start w).alloc _
  clear H HH
  go_enter Try.func14, Try.ntmps14
  go_wp2_with ((with_reducible refine h1.out.mono ?_); rintro e w1 ⟨rfl, rfl⟩)
  (with_reducible refine h2.out.mono ?_)
  rintro e w2 ⟨rfl, hb⟩
  have M1 := Lib.hid (M0.out.call hb)
  have K0 := Lib.hid (M1.out.heap 0 rfl)
  clear hb M0
  go_wp2_with ((with_reducible refine wpList_store_rowAs rfl 24 _ _ rfl (w.heap.size) #[.int .i64 y.tick, .int .i64 y.load, .int .i64 y.want, .int .i64 y.repl, .int .i64 y.why] ?_ ?_ 24 #[.int .i64 0, .int .i64 0, .int .i64 0, .int .i64 0, .int .i64 0] 5 ?_ (by kernel_rfl) rfl rfl (by simp [Value.oneCell']) ?_); exact rfl; exact rfl; exact K0.out)
  exact bodyPost_ret (results_row_tmp rfl _ _ w.heap.size 24 #[.int .i64 y.tick, .int .i64 y.load, .int .i64 y.want, .int .i64 y.repl, .int .i64 y.why] (0, 0) _ 5 _ rfl rfl ((M1.out.setRow 0 rfl).heap 0 rfl) Try.underlying24 rfl advSize5 rfl) rfl ⟨rfl, (M1.out.setRow 0 rfl).below⟩

theorem hist_clone_nil (w : World) : Calls Try.prog 18 #[.pointer none] w fun e w' => e = .returned (.pointer none) ∧ w = w' := by
  go_enter Try.func18, Try.ntmps18
  go_wp2
  go_ret
  exact ⟨rfl, rfl⟩
theorem hist_clone {w : World} {B h r : Nat} {v : Value} {room : Nat} {L : List Adv} (H : HistA w B h r v room L) :
    Calls Try.prog 18 #[.pointer (some ⟨h, 0, none⟩)] w fun e w' => ∃ h' r' u, e = .returned (.pointer (some ⟨h', 0, none⟩)) ∧ HistA w' w.heap.size h' r' u room L ∧ Below w.heap.size w w' := by
  have c := H.cell
  have h2 := Lib.hid (ringA_clone H.ring)
  clear H
  go_enter Try.func18, Try.ntmps18
  go_wp2_with fail
  (with_reducible refine h2.out.mono ?_)
  rintro e w1 ⟨r', u, rfl, hr, hb⟩
  have R := Lib.hid hr
  have B1 := Lib.hid hb
  clear hr hb
  go_wp2
  go_ret
  have hlt := R.out.lt
  exact ⟨_, r', u, rfl, ⟨B1.out.size, heap_alloc_at _ _ _ rfl, R.out.below (below1 _ _), by omega, fun e => by have := hlt.2 _ e; omega⟩, B1.out.alloc B1.out.size _⟩

set_option maxRecDepth 100000 in
theorem hist_add_nil (a : Adv) (w : World) : Calls Try.prog 15 #[.pointer none, .agg #[.int .i64 a.tick, .int .i64 a.load, .int .i64 a.want, .int .i64 a.repl, .int .i64 a.why]] w fun e w' => e = .returned (.bool false) ∧ Below w.heap.size w w' := by
  have h1 := Lib.hid hist_kept_nil
  have h2 := Lib.hid (ringA_push_nil a)
  have h3 := Lib.hid ringA_room_nil
  have hst := stab_and (stab_below (B := w.heap.size) (w0 := w) (Nat.le_refl _)) (stab_heap w.heap.size (.cells #[.int .i64 a.tick, .int .i64 a.load, .int .i64 a.want, .int .i64 a.repl, .int .i64 a.why] 24 (0, 0)))
  go_enter Try.func15, Try.ntmps15
  go_wp2_with fail
  refine wp_region_E mixed [] hst ⟨below_drew (below1 _ _), heap_alloc_at _ _ _ rfl⟩ ?_
  refine wpAnyE_take 0 rfl (by kernel_rfl) (by kernel_rfl) (by kernel_rfl) (fun _ _ _ h => h) hst (EffB.pure rfl (fun _ => rfl)) (.inr (EffB.pure rfl (fun _ => rfl))) ?_
  simp only [act_norm]
  refine wpAnyE_take 1 (v := .pointer none) rfl (by kernel_rfl) (by kernel_rfl) (by kernel_rfl) (fun _ _ _ h => h) hst (EffB.run rfl rfl (fun wd hS => ?_)) (.inl (by kernel_rfl)) ?_
  · (go_wp2_with fail; (with_reducible refine (h1.out wd).mono ?_); rintro e w'' ⟨rfl, rfl⟩; exact ⟨rfl, Below.refl _ _⟩)
  simp only [act_norm]
  refine wpAnyE_take 2 (v := .agg #[.int .i64 a.tick, .int .i64 a.load, .int .i64 a.want, .int .i64 a.repl, .int .i64 a.why]) rfl (by kernel_rfl) (by kernel_rfl) (by kernel_rfl) (fun _ _ _ h => h) hst (EffB.run rfl rfl (fun wd hS => ?_)) (.inl (by kernel_rfl)) ?_
  · exact wp_load_row 24 _ rfl (w.heap.size) rfl 24 #[.int .i64 a.tick, .int .i64 a.load, .int .i64 a.want, .int .i64 a.repl, .int .i64 a.why] (0, 0) _ (hS.2) Try.underlying24 rfl (by kernel_rfl) ⟨rfl, Below.refl _ _⟩
  simp only [act_norm]
  refine wpAnyE_one 3 rfl (by kernel_rfl) rfl (fun wd hS => ?_)
  go_wp2_with fail
  (with_reducible refine (h2.out _).mono ?_)
  rintro e w2 ⟨⟨u, rfl⟩, hb⟩
  refine ⟨_, hst _ _ hS hb, hst, (by first | exact fun _ h => h | exact .inr fun _ h => h), ?_⟩
  clear hS hb
  try simp only [act_norm]
  refine wpAnyE_done (by kernel_rfl) (fun wd hS => ?_) _
  have HS := Lib.hid hS
  clear hS
  go_wp2_with (first | ((with_reducible refine (h1.out _).mono ?_); rintro e w1 ⟨rfl, rfl⟩) | ((with_reducible refine (h3.out _).mono ?_); rintro e w1 ⟨rfl, rfl⟩))
  go_ret
  exact ⟨rfl, HS.out.1⟩
set_option maxRecDepth 100000 in
theorem hist_add {w : World} {B h r : Nat} {v : Value} {room : Nat} {L : List Adv} (H : HistA w B h r v room L) (hB : B ≤ w.heap.size) (a : Adv) :
    Calls Try.prog 15 #[.pointer (some ⟨h, 0, none⟩), .agg #[.int .i64 a.tick, .int .i64 a.load, .int .i64 a.want, .int .i64 a.repl, .int .i64 a.why]] w fun e w' => e = .returned (.bool true) ∧
      ∃ v', HistA w' B h r v' room (Ring.next room L a) ∧ Turned (fun k => k = r ∨ v.ownBlock = some k) w w' ∧ (∀ k, v'.ownBlock = some k → v.ownBlock = some k ∨ w.heap.size ≤ k) := by
  have HH := H.below (below1 w (.cells #[.int .i64 a.tick, .int .i64 a.load, .int .i64 a.want, .int .i64 a.repl, .int .i64 a.why] 24))
  have hlen := H.ring.len
  have hst := stab_and (stab_hist (B := B) (h := h) (r := r) (v := v) (room := room) (L := L)) (stab_and (stab_below (B := w.heap.size) (w0 := w) (Nat.le_refl _)) (stab_heap w.heap.size (.cells #[.int .i64 a.tick, .int .i64 a.load, .int .i64 a.want, .int .i64 a.repl, .int .i64 a.why] 24 (0, 0))))
  have HLT := Lib.hid H.ring.lt
  have HLH := Lib.hid (lt_of_heap H.row)
  have HAP := Lib.hid H.apart
  have HAP2 := Lib.hid H.apart2
  have HH2 := Lib.hid HH
  clear HH H
  go_enter Try.func15, Try.ntmps15
  go_wp2_with fail
  refine wp_region_E mixed [3] hst ⟨HH2.out.below (below_drew (Below.refl _ _)), below_drew (below1 _ _), heap_alloc_at _ _ _ rfl⟩ ?_
  refine wpAnyE_take 0 rfl (by kernel_rfl) (by kernel_rfl) (by kernel_rfl) (fun _ _ _ h => h) hst (EffB.pure rfl (fun _ => rfl)) (.inr (EffB.pure rfl (fun _ => rfl))) ?_
  simp only [act_norm]
  refine wpAnyE_take 1 (v := .pointer (some ⟨r, 0, none⟩)) rfl (by kernel_rfl) (by kernel_rfl) (by kernel_rfl) (fun _ _ _ h => h) hst (EffB.run rfl rfl (fun wd hS => ?_)) (.inl (by kernel_rfl)) ?_
  · (go_wp2_with fail; (with_reducible refine (hist_kept hS.1).mono ?_); rintro e w'' ⟨rfl, rfl⟩; exact ⟨rfl, Below.refl _ _⟩)
  simp only [act_norm]
  refine wpAnyE_take 2 (v := .agg #[.int .i64 a.tick, .int .i64 a.load, .int .i64 a.want, .int .i64 a.repl, .int .i64 a.why]) rfl (by kernel_rfl) (by kernel_rfl) (by kernel_rfl) (fun _ _ _ h => h) hst (EffB.run rfl rfl (fun wd hS => ?_)) (.inl (by kernel_rfl)) ?_
  · exact wp_load_row 24 _ rfl (w.heap.size) rfl 24 #[.int .i64 a.tick, .int .i64 a.load, .int .i64 a.want, .int .i64 a.repl, .int .i64 a.why] (0, 0) _ (hS.2.2) Try.underlying24 rfl (by kernel_rfl) ⟨rfl, Below.refl _ _⟩
  simp only [act_norm]
  refine wpAnyE_one 3 rfl (by kernel_rfl) rfl (fun wd hS => ?_)
  go_wp2_with fail
  (with_reducible refine (ringA_push hS.1.ring (Nat.le_trans hB hS.2.1.size) a).mono ?_)
  rintro e w2 ⟨⟨u, rfl⟩, v', hr', ht, hw⟩
  have hlw := HLT.out
  have hlh := HLH.out
  have ht2 : Turned (fun k => k = r ∨ v.ownBlock = some k) w w2 := (Turned.of_below hS.2.1).trans ht (fun k _ h => h)
  have hH' : HistA w2 B h r v' room (Ring.next room L a) := ⟨hS.1.low, (ht.block _ (lt_of_heap hS.1.row) (fun e => by rcases e with e | e; exact HAP.out e; exact HAP2.out e)).trans hS.1.row, hr', HAP.out, fun e => by rcases hw _ e with h1 | h1; exact HAP2.out h1; have := hS.2.1.size; omega⟩
  have X := Lib.hid (And.intro hH' ht2)
  have HW : Hid (∀ k, v'.ownBlock = some k → v.ownBlock = some k ∨ w.heap.size ≤ k) := fun k hk => (hw k hk).imp id (fun h => Nat.le_trans hS.2.1.size h)
  have hst2 := stab_and (stab_hist (B := B) (h := h) (r := r) (v := v') (room := room) (L := Ring.next room L a)) (stab_turned (S := fun k => k = r ∨ v.ownBlock = some k) (w := w))
  refine ⟨_, X.out, hst2, ?_⟩
  clear hS hr' ht hw ht2 hH' X hst
  try simp only [act_norm]
  refine wpAnyE_done (by kernel_rfl) (fun wd hS => ?_) _
  have HS := Lib.hid hS
  have F1 := Lib.hid (hist_kept hS.1)
  have F2 := Lib.hid (ringA_roomOf hS.1.ring)
  clear hS hst2
  have d1 : decide ((0 : Int) < room) = true := decide_eq_true (by omega)
  have d2 : decide (0 < room) = true := decide_eq_true (by omega)
  go_wp2_with (first | ((with_reducible refine F1.out.mono ?_); rintro e w1 ⟨rfl, rfl⟩) | ((with_reducible refine F2.out.mono ?_); rintro e w1 ⟨rfl, rfl⟩))
  go_ret
  exact ⟨rfl, v', HS.out.1, HS.out.2, HW.out⟩
end Go.Proofs.Ytildjnibdappnaa
