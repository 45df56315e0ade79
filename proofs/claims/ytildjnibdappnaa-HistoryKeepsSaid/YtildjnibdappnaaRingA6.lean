/- Layer 14: a ring of decisions, by what it has in order. -/
import Derived.Test.YtildjnibdappnaaRingA5
import Derived.Test.YtildjnibdappnaaRing
import Derived.Test.YtildjnibdappnaaTri
namespace Go.Proofs.Ytildjnibdappnaa
open Go.ChangeShapes Go.WideShapes Go.ChangeAt Go.RowKit

theorem rot_adv (f : Nat) (l : List Adv) : rot (f * 5) (advVals l) = advVals (rot f l) := by
  have key : ∀ (f : Nat) (l : List Adv), (advVals l).drop (f * 5) = advVals (l.drop f) ∧ (advVals l).take (f * 5) = advVals (l.take f) := by
    intro f
    induction f with
    | zero => intro l; simp [advVals]
    | succ f ih =>
      intro l
      cases l with
      | nil => simp [advVals]
      | cons a l =>
        obtain ⟨h1, h2⟩ := ih l
        rw [show (f + 1) * 5 = f * 5 + 5 by omega]
        exact ⟨h1, by show _ :: _ :: _ :: _ :: _ :: (advVals l).take (f * 5) = _; rw [h2]; rfl⟩
  unfold rot
  rw [advVals_append, (key f l).1, (key f l).2]
theorem rot_getA {α : Type} (f : Nat) (l : List α) (h : f < l.length) (i : Nat) (hi : i < l.length) : (rot f l)[i]? = l[(f + i) % l.length]? := by
  unfold rot
  by_cases h1 : f + i < l.length
  · rw [List.getElem?_append_left (by rw [List.length_drop]; omega), List.getElem?_drop, Nat.mod_eq_of_lt h1]
  · rw [List.getElem?_append_right (by rw [List.length_drop]; omega), List.length_drop, List.getElem?_take_of_lt (by omega)]
    congr 1
    rw [show f + i = (f + i - l.length) + l.length by omega, Nat.add_mod_right, Nat.mod_eq_of_lt (by omega)]
    omega

/-- A ring of decisions that has L, in order. -/
def RingA (w : World) (B r : Nat) (v : Value) (room : Nat) (L : List Adv) : Prop :=
  ∃ first ys, RingAt 105 5 w B r v room first L.length (advVals ys) ∧ 1 ≤ room ∧ room ≤ 4096 ∧ L.length ≤ room ∧ (L.length < room → first = 0) ∧ first < room ∧ rot first ys = L
theorem RingA.below {w w' : World} {B r : Nat} {v : Value} {room : Nat} {L : List Adv} (h : RingA w B r v room L) (hb : Below w.heap.size w w') : RingA w' B r v room L := by
  obtain ⟨f, ys, h1, h2⟩ := h
  exact ⟨f, ys, h1.below hb, h2⟩
theorem RingA.turned {S : Nat → Prop} {w w' : World} {B r : Nat} {v : Value} {room : Nat} {L : List Adv} (h : RingA w B r v room L) (hb : Turned S w w') (h1 : ¬ S r) (h2 : ∀ k, v.ownBlock = some k → ¬ S k) : RingA w' B r v room L := by
  obtain ⟨f, ys, h3, h4⟩ := h
  exact ⟨f, ys, h3.turned hb h1 h2, h4⟩
theorem RingA.lt {w : World} {B r : Nat} {v : Value} {room : Nat} {L : List Adv} (h : RingA w B r v room L) : r < w.heap.size ∧ ∀ k, v.ownBlock = some k → k < w.heap.size := by
  obtain ⟨f, ys, h3, h4⟩ := h
  exact ⟨h3.lt, fun k hk => (h3.owns.lt k hk).2⟩
theorem RingA.apart {w : World} {B r : Nat} {v : Value} {room : Nat} {L : List Adv} (h : RingA w B r v room L) : v.ownBlock ≠ some r ∧ B ≤ r ∧ ∀ k, v.ownBlock = some k → B ≤ k := by
  obtain ⟨f, ys, h3, h4⟩ := h
  exact ⟨h3.apart, h3.low, fun k hk => (h3.owns.lt k hk).1⟩
theorem RingA.len {w : World} {B r : Nat} {v : Value} {room : Nat} {L : List Adv} (h : RingA w B r v room L) : L.length ≤ room ∧ 1 ≤ room ∧ room ≤ 4096 := by
  obtain ⟨f, ys, h3, h4, h5, h6, _⟩ := h
  exact ⟨h6, h4, h5⟩
theorem RingA.pushed {w w' : World} {B r : Nat} {v : Value} {room : Nat} {L : List Adv} (h : RingA w B r v room L) (hB : B ≤ w.heap.size) (ht : Turned (fun k => k = r ∨ v.ownBlock = some k) w w') : Below B w w' :=
  ht.below (fun k hk => by rcases hk with rfl | hk; exact h.apart.2.1; exact h.apart.2.2 k hk) hB

theorem ringA_made (room : Nat) (h1 : 1 ≤ room) (h2 : room ≤ 4096) (w : World) : Calls Try.prog 47 #[.int .i64 room] w fun e w' => ∃ r, e = .returned (.pointer (some ⟨r, 0, none⟩)) ∧ RingA w' w.heap.size r (.slice none 0 0) room [] ∧ Below w.heap.size w w' := by
  refine (ringA_new room h1 h2 w).mono ?_
  rintro e w' ⟨rfl, rfl⟩
  exact ⟨_, rfl, ⟨0, [], ⟨Nat.le_refl _, heap_alloc_at _ _ _ rfl, owns_nil _ _ _, by simp [Value.ownBlock], fun _ => rfl⟩, h1, h2, by simp, fun _ => rfl, by omega, rfl⟩, below1 _ _⟩

theorem ringA_push {w : World} {B r : Nat} {v : Value} {room : Nat} {L : List Adv} (h : RingA w B r v room L) (hB : B ≤ w.heap.size) (x : Adv) :
    Calls Try.prog 50 #[.pointer (some ⟨r, 0, none⟩), .agg #[.int .i64 x.tick, .int .i64 x.load, .int .i64 x.want, .int .i64 x.repl, .int .i64 x.why]] w fun e w' => (∃ u, e = .returned u) ∧
      ∃ v', RingA w' B r v' room (Ring.next room L x) ∧ Turned (fun k => k = r ∨ v.ownBlock = some k) w w' ∧ (∀ k, v'.ownBlock = some k → v.ownBlock = some k ∨ w.heap.size ≤ k) := by
  obtain ⟨first, ys, h1, h2, h3, h4, h5, h6, h7⟩ := h
  have hyl : ys.length = L.length := by rw [← h7, rot_len]
  by_cases hl : L.length < room
  · obtain rfl := h5 hl
    rw [rot_zero] at h7
    subst h7
    refine (ringA_push_grows h1 hl h3 hB x).mono ?_
    rintro e w' ⟨hu, v', g1, g2, g3⟩
    refine ⟨hu, v', ⟨0, ys ++ [x], ?_, h2, h3, ?_, fun _ => rfl, by omega, ?_⟩, g2, g3⟩
    · unfold Ring.next
      rw [if_pos hl, List.length_append, advVals_append]
      exact g1
    · unfold Ring.next
      rw [if_pos hl]
      simp
      omega
    · unfold Ring.next
      rw [if_pos hl, rot_zero]
  · have hn : L.length = room := by omega
    have hnl : (Ring.next room L x).length = room := by
      unfold Ring.next
      rw [if_neg hl]
      simp
      omega
    rw [hn] at h1
    have hlt : first < ys.length := by omega
    refine (ringA_push_full (xs' := advVals (ys.set first x)) h1 h2 h3 h6 ys[first] x (advVals_mid ys first _ (List.getElem?_eq_getElem hlt)) (by rw [advVals_len, advVals_len, List.length_set]) (fun i => ?_)).mono ?_
    · have := advVals_set ys first x i
      rw [if_pos hlt] at this
      exact this
    rintro e w' ⟨hu, g1, g2⟩
    refine ⟨hu, v, ⟨(first + 1) % room, ys.set first x, ?_, h2, h3, by omega, fun h => by omega, Nat.mod_lt _ (by omega), ?_⟩, g2, fun k hk => .inl hk⟩
    · rw [hnl]
      exact g1
    · have := rot_push first ys x (by omega)
      rw [hyl, hn, h7] at this
      rw [this]
      unfold Ring.next
      rw [if_neg hl]

theorem ringA_list {w : World} {B r : Nat} {v : Value} {room : Nat} {L : List Adv} (h : RingA w B r v room L) :
    Calls Try.prog 53 #[.pointer (some ⟨r, 0, none⟩)] w fun e w' => ∃ p c, e = .returned (.slice p L.length c) ∧ L.length ≤ c ∧ Advs w' p L ∧ Below w.heap.size w w' := by
  obtain ⟨first, ys, h1, h2, h3, h4, h5, h6, h7⟩ := h
  have hyl : ys.length = L.length := by rw [← h7, rot_len]
  refine (ringA_list_of (q := some ⟨r, 0, none⟩) L (by omega) (fun w' hb => ?_)).mono ?_
  · have := ringA_all (h1.below hb) (by omega) (by omega) (advVals_one ys)
    have e : rot (first * 5) (advVals ys) = advVals L := by rw [rot_adv, h7]
    rw [e] at this
    exact this
  · rintro e w' ⟨u, rfl, hO, hb⟩
    obtain ⟨p, c, rfl, hc, hs⟩ := advs_of_owns hO
    exact ⟨p, c, rfl, hc, hs, hb⟩
theorem ringA_listNil (w : World) : Calls Try.prog 53 #[.pointer none] w fun e w' => ∃ p c, e = .returned (.slice p 0 c) ∧ Below w.heap.size w w' := by
  refine (ringA_list_of (q := none) [] (by simp) (fun w' hb => ringA_all_nil w')).mono ?_
  rintro e w' ⟨u, rfl, hO, hb⟩
  obtain ⟨p, c, rfl, _⟩ := hO.sl
  exact ⟨p, c, rfl, hb⟩
theorem ringA_roomOf {w : World} {B r : Nat} {v : Value} {room : Nat} {L : List Adv} (h : RingA w B r v room L) : Calls Try.prog 51 #[.pointer (some ⟨r, 0, none⟩)] w fun e w' => e = .returned (.int .i64 room) ∧ w = w' := by
  obtain ⟨first, ys, h1, _⟩ := h
  exact ringA_room h1
theorem ringA_lenOf {w : World} {B r : Nat} {v : Value} {room : Nat} {L : List Adv} (h : RingA w B r v room L) : Calls Try.prog 52 #[.pointer (some ⟨r, 0, none⟩)] w fun e w' => e = .returned (.int .i64 L.length) ∧ w = w' := by
  obtain ⟨first, ys, h1, _⟩ := h
  exact ringA_len h1

set_option maxHeartbeats 2000000 in
set_option maxRecDepth 100000 in
theorem ringA_at_no (q : Option Addr) (i : Int) (hi : i < 0) (w : World) :
    Calls Try.prog 79 #[.pointer q, .int .i64 i] w fun e w' => e = .returned (.tuple #[.agg #[.int .i64 0, .int .i64 0, .int .i64 0, .int .i64 0, .int .i64 0], .bool false]) ∧ Below w.heap.size w w' := by
  have d0 : decide (i < 0) = true := decide_eq_true hi
  have M1 : Hid (Mem w ((w.alloc (.cells #[.int .i64 0, .int .i64 0, .int .i64 0, .int .i64 0, .int .i64 0] 24)).alloc (.cells #[.int .i64 0, .int .i64 0, .int .i64 0, .int .i64 0, .int .i64 0] 24)) [(w.heap.size, .cells #[.int .i64 0, .int .i64 0, .int .i64 0, .int .i64 0, .int .i64 0] 24), (w.heap.size + 1, .cells #[.int .i64 0, .int .i64 0, .int .i64 0, .int .i64 0, .int .i64 0] 24)]) :=
    ((Mem.start w).alloc _).allocAs (w.heap.size + 1) _ (by simp)
  have K0 := Lib.hid (M1.out.heap 0 rfl)
  have K1 := Lib.hid (M1.out.heap 1 rfl)
  go_enter Try.func79, Try.ntmps79
  go_wp2_with (first | ((with_reducible refine wpList_load_rowAs rfl 24 _ rfl ((w.heap.size + 1)) ?_ 24 #[.int .i64 0, .int .i64 0, .int .i64 0, .int .i64 0, .int .i64 0] (0, 0) _ 5 ?_ Try.underlying24 rfl (by kernel_rfl) ?_ ?_); exact rfl; exact K1.out; exact rfl) | ((with_reducible refine wpList_store_rowAs rfl 24 _ _ rfl (w.heap.size) #[.int .i64 0, .int .i64 0, .int .i64 0, .int .i64 0, .int .i64 0] ?_ ?_ 24 #[.int .i64 0, .int .i64 0, .int .i64 0, .int .i64 0, .int .i64 0] 5 ?_ (by kernel_rfl) rfl rfl (by simp [Value.oneCell']) ?_); exact rfl; exact rfl; exact K0.out))
  exact bodyPost_ret (results_row_tmp rfl _ _ w.heap.size 24 #[.int .i64 0, .int .i64 0, .int .i64 0, .int .i64 0, .int .i64 0] (0, 0) _ 5 _ rfl rfl ((M1.out.setRow 0 rfl).heap 0 rfl) Try.underlying24 rfl advSize5 rfl) rfl ⟨rfl, (M1.out.setRow 0 rfl).below⟩

set_option maxHeartbeats 2000000 in
set_option maxRecDepth 100000 in
theorem ringA_at_yes {w : World} {B r : Nat} {v : Value} {room : Nat} {L : List Adv} (h : RingA w B r v room L) (i : Nat) (hi : i < L.length) (y : Adv) (hy : L[i]? = some y) :
    Calls Try.prog 79 #[.pointer (some ⟨r, 0, none⟩), .int .i64 i] w fun e w' => e = .returned (.tuple #[.agg #[.int .i64 y.tick, .int .i64 y.load, .int .i64 y.want, .int .i64 y.repl, .int .i64 y.why], .bool true]) ∧ Below w.heap.size w w' := by
  have h1 := Lib.hid (ringA_lenOf (h.below (below1 w (.cells #[.int .i64 0, .int .i64 0, .int .i64 0, .int .i64 0, .int .i64 0] 24))))
  obtain ⟨first, ys, hr0, h2, h3, h4, h5, h6, h7⟩ := h
  have hr := hr0.below (below1 w (.cells #[.int .i64 0, .int .i64 0, .int .i64 0, .int .i64 0, .int .i64 0] 24))
  have hyl : ys.length = L.length := by rw [← h7, rot_len]
  obtain ⟨n, en⟩ : ∃ n, n = L.length := ⟨_, rfl⟩
  rw [← en] at h1 hr hi h4 h5 hyl
  have hfn : first < n := by omega
  have hyy : ys[(first + i) % n]? = some y := by
    rw [← hyl, ← rot_getA first ys (by omega) i (by omega), h7]
    exact hy
  obtain ⟨f1, ef1⟩ : ∃ f1, f1 = (first + i) % n := ⟨_, rfl⟩
  have hm1 : Hid (((first : Int) + i) % n = f1) := by show _ = _; rw [ef1]; simp
  have hf1 : f1 < n := by rw [ef1]; exact Nat.mod_lt _ (by omega)
  rw [← ef1] at hyy
  have HV := Lib.hid (advVals_mid ys f1 y hyy)
  obtain ⟨g, cap, ev, hgr, hBg, hgw, hrc⟩ := hr.slice (by omega)
  have HR := Lib.hid hr
  rw [ev] at HR
  have hst := stab_and (stab_and (stab_ring (TR := 105) (sz := 5) (B := B) (r := r) (v := .slice (some ⟨g, 0, none⟩) n cap) (room := room) (first := first) (n := n) (xs := advVals ys)) (stab_heap w.heap.size (.cells #[.int .i64 0, .int .i64 0, .int .i64 0, .int .i64 0, .int .i64 0] 24 (0, 0)))) (stab_below (B := w.heap.size) (w0 := w) (Nat.le_refl _))
  have d0 : decide ((i : Int) < 0) = false := decide_eq_false (by omega)
  have d1 : decide (n ≤ i) = false := decide_eq_false (by omega)
  have d2 : decide ((n : Int) ≤ (i : Int)) = false := decide_eq_false (by omega)
  clear hr hr0 ev hyy ef1 hy h7 hyl en h5 hgr hBg hgw hrc
  go_enter Try.func79, Try.ntmps79
  go_wp2_with ((with_reducible refine h1.out.mono ?_); rintro e w1 ⟨rfl, rfl⟩)
  refine wp_region_E mixed [18] hst ⟨⟨HR.out.same (Nat.le_refl _) rfl (fun _ _ => rfl), heap_alloc_at _ _ _ rfl⟩, below_drew (below1 _ _)⟩ ?_
  refine wpAnyE_take 0 rfl (by kernel_rfl) (by kernel_rfl) (by kernel_rfl) (fun _ _ _ h => h) hst (EffB.pure rfl (fun _ => rfl)) (.inr (EffB.pure rfl (fun _ => rfl))) ?_
  simp only [act_norm]
  refine wpAnyE_take 1 (v := .pointer (some ⟨r, 0, none⟩)) rfl (by kernel_rfl) (by kernel_rfl) (by kernel_rfl) (fun _ _ _ h => h) hst (EffB.run rfl rfl (fun wd hS => ?_)) (.inr (EffB.run rfl rfl (fun wd hS => ?_))) ?_
  · (go_wp2; exact ⟨rfl, Below.refl _ _⟩)
  · (go_wp2; exact ⟨rfl, Below.refl _ _⟩)
  simp only [act_norm]
  refine wpAnyE_take 2 (v := .pointer (some ⟨r, 2, none⟩)) rfl (by kernel_rfl) (by kernel_rfl) (by kernel_rfl) (fun _ _ _ h => h) hst (EffB.run rfl rfl (fun wd hS => ?_)) (.inr (EffB.run rfl rfl (fun wd hS => ?_))) ?_
  · (go_wp2; exact ⟨rfl, Below.refl _ _⟩)
  · (go_wp2; exact ⟨rfl, Below.refl _ _⟩)
  simp only [act_norm]
  refine wpAnyE_take 3 (v := .slice (some ⟨g, 0, none⟩) n cap) rfl (by kernel_rfl) (by kernel_rfl) (by kernel_rfl) (fun _ _ _ h => h) hst (EffB.run rfl rfl (fun wd hS => ?_)) (.inl (by kernel_rfl)) ?_
  · (have c2 : wd.cell? ⟨r, 2, none⟩ = some (.slice (some ⟨g, 0, none⟩) n cap) := by rw [cell_of_row _ _ _ _ _ _ (hS.1.1.row)]; rfl); go_wp2; exact ⟨rfl, Below.refl _ _⟩
  simp only [act_norm]
  refine wpAnyE_take 4 rfl (by kernel_rfl) (by kernel_rfl) (by kernel_rfl) (fun _ _ _ h => h) hst (EffB.pure rfl (fun _ => rfl)) (.inr (EffB.pure rfl (fun _ => rfl))) ?_
  simp only [act_norm]
  refine wpAnyE_take 5 (v := .pointer (some ⟨r, 0, none⟩)) rfl (by kernel_rfl) (by kernel_rfl) (by kernel_rfl) (fun _ _ _ h => h) hst (EffB.run rfl rfl (fun wd hS => ?_)) (.inr (EffB.run rfl rfl (fun wd hS => ?_))) ?_
  · (go_wp2; exact ⟨rfl, Below.refl _ _⟩)
  · (go_wp2; exact ⟨rfl, Below.refl _ _⟩)
  simp only [act_norm]
  refine wpAnyE_take 6 (v := .pointer (some ⟨r, 1, none⟩)) rfl (by kernel_rfl) (by kernel_rfl) (by kernel_rfl) (fun _ _ _ h => h) hst (EffB.run rfl rfl (fun wd hS => ?_)) (.inr (EffB.run rfl rfl (fun wd hS => ?_))) ?_
  · (go_wp2; exact ⟨rfl, Below.refl _ _⟩)
  · (go_wp2; exact ⟨rfl, Below.refl _ _⟩)
  simp only [act_norm]
  refine wpAnyE_take 7 (v := .int .i64 first) rfl (by kernel_rfl) (by kernel_rfl) (by kernel_rfl) (fun _ _ _ h => h) hst (EffB.run rfl rfl (fun wd hS => ?_)) (.inl (by kernel_rfl)) ?_
  · (have c2 : wd.cell? ⟨r, 1, none⟩ = some (.int .i64 first) := by rw [cell_of_row _ _ _ _ _ _ (hS.1.1.row)]; rfl); go_wp2; exact ⟨rfl, Below.refl _ _⟩
  simp only [act_norm]
  refine wpAnyE_take 8 rfl (by kernel_rfl) (by kernel_rfl) (by kernel_rfl) (fun _ _ _ h => h) hst (EffB.pure rfl (fun _ => rfl)) (.inr (EffB.pure rfl (fun _ => rfl))) ?_
  simp only [act_norm]
  refine wpAnyE_take 9 (v := .int .i64 ((first : Int) + i)) rfl (by kernel_rfl) (by kernel_rfl) (by kernel_rfl) (fun _ _ _ h => h) hst (EffB.run rfl rfl (fun wd hS => ?_)) (.inr (EffB.run rfl rfl (fun wd hS => ?_))) ?_
  · (go_wp2; exact ⟨rfl, Below.refl _ _⟩)
  · (go_wp2; exact ⟨rfl, Below.refl _ _⟩)
  simp only [act_norm]
  refine wpAnyE_take 10 rfl (by kernel_rfl) (by kernel_rfl) (by kernel_rfl) (fun _ _ _ h => h) hst (EffB.pure rfl (fun _ => rfl)) (.inr (EffB.pure rfl (fun _ => rfl))) ?_
  simp only [act_norm]
  refine wpAnyE_take 11 (v := .pointer (some ⟨r, 0, none⟩)) rfl (by kernel_rfl) (by kernel_rfl) (by kernel_rfl) (fun _ _ _ h => h) hst (EffB.run rfl rfl (fun wd hS => ?_)) (.inr (EffB.run rfl rfl (fun wd hS => ?_))) ?_
  · (go_wp2; exact ⟨rfl, Below.refl _ _⟩)
  · (go_wp2; exact ⟨rfl, Below.refl _ _⟩)
  simp only [act_norm]
  refine wpAnyE_take 12 (v := .pointer (some ⟨r, 2, none⟩)) rfl (by kernel_rfl) (by kernel_rfl) (by kernel_rfl) (fun _ _ _ h => h) hst (EffB.run rfl rfl (fun wd hS => ?_)) (.inr (EffB.run rfl rfl (fun wd hS => ?_))) ?_
  · (go_wp2; exact ⟨rfl, Below.refl _ _⟩)
  · (go_wp2; exact ⟨rfl, Below.refl _ _⟩)
  simp only [act_norm]
  refine wpAnyE_take 13 (v := .slice (some ⟨g, 0, none⟩) n cap) rfl (by kernel_rfl) (by kernel_rfl) (by kernel_rfl) (fun _ _ _ h => h) hst (EffB.run rfl rfl (fun wd hS => ?_)) (.inl (by kernel_rfl)) ?_
  · (have c2 : wd.cell? ⟨r, 2, none⟩ = some (.slice (some ⟨g, 0, none⟩) n cap) := by rw [cell_of_row _ _ _ _ _ _ (hS.1.1.row)]; rfl); go_wp2; exact ⟨rfl, Below.refl _ _⟩
  simp only [act_norm]
  refine wpAnyE_take 14 (v := .int .i64 n) rfl (by kernel_rfl) (by kernel_rfl) (by kernel_rfl) (fun _ _ _ h => h) hst (EffB.run rfl rfl (fun wd hS => ?_)) (.inr (EffB.run rfl rfl (fun wd hS => ?_))) ?_
  · (go_wp2; exact ⟨rfl, Below.refl _ _⟩)
  · (go_wp2; exact ⟨rfl, Below.refl _ _⟩)
  simp only [act_norm]
  refine wpAnyE_take 15 (v := .int .i64 (((first : Int) + i) % n)) rfl (by kernel_rfl) (by kernel_rfl) (by kernel_rfl) (fun _ _ _ h => h) hst (EffB.run rfl rfl (fun wd hS => ?_)) (.inr (EffB.run rfl rfl (fun wd hS => ?_))) ?_
  · (go_wp2; exact ⟨rfl, Below.refl _ _⟩)
  · (go_wp2; exact ⟨rfl, Below.refl _ _⟩)
  simp only [act_norm]
  rw [hm1.out]
  refine wpAnyE_take 16 (v := .pointer (some ⟨g, f1 * 5, none⟩)) rfl (by kernel_rfl) (by kernel_rfl) (by kernel_rfl) (fun _ _ _ h => h) hst (EffB.run rfl rfl (fun wd hS => ?_)) (.inr (EffB.run rfl rfl (fun wd hS => ?_))) ?_
  · (go_wp2; exact ⟨rfl, Below.refl _ _⟩)
  · (go_wp2; exact ⟨rfl, Below.refl _ _⟩)
  simp only [act_norm]
  refine wpAnyE_take 17 (v := .agg #[.int .i64 y.tick, .int .i64 y.load, .int .i64 y.want, .int .i64 y.repl, .int .i64 y.why]) rfl (by kernel_rfl) (by kernel_rfl) (by kernel_rfl) (fun _ _ _ h => h) hst (EffB.run rfl rfl (fun wd hS => ?_)) (.inl (by kernel_rfl)) ?_
  · exact wp_load_mid 24 _ rfl g (f1 * 5) rfl (advVals [y]) _ (ring_mid (hS.1.1.owns) hf1 HV.out) Try.underlying24 rfl advSize5 ⟨rfl, Below.refl _ _⟩
  simp only [act_norm]
  refine wpAnyE_one 18 rfl (by kernel_rfl) rfl (fun wd hS => ?_)
  have hst2 := stab_and (stab_heap w.heap.size (.cells #[.int .i64 y.tick, .int .i64 y.load, .int .i64 y.want, .int .i64 y.repl, .int .i64 y.why] 24 (0, 0))) (stab_below (B := w.heap.size) (w0 := w) (Nat.le_refl _))
  refine wp_store_row 24 _ _ rfl w.heap.size #[.int .i64 y.tick, .int .i64 y.load, .int .i64 y.want, .int .i64 y.repl, .int .i64 y.why] rfl rfl 24 #[.int .i64 0, .int .i64 0, .int .i64 0, .int .i64 0, .int .i64 0] hS.1.2 advSize5 rfl (by simp [Value.oneCell']) ?_
  refine ⟨_, ⟨setRow_heap _ _ _ _ _ _ hS.1.2, below_setRow hS.2 (Nat.le_refl _) _⟩, hst2, .inl (by decide), ?_⟩
  clear hS hst
  have hst := hst2
  try simp only [act_norm]
  refine wpAnyE_take 19 rfl (by kernel_rfl) (by kernel_rfl) (by kernel_rfl) (fun _ _ _ h => h) hst (EffB.pure rfl (fun _ => rfl)) (.inr (EffB.pure rfl (fun _ => rfl))) ?_
  simp only [act_norm]
  refine wpAnyE_done (by kernel_rfl) (fun wd hS => ?_) _
  have HS := Lib.hid hS
  clear hS
  go_wp2
  exact bodyPost_ret (results_row_tmp rfl _ _ w.heap.size 24 #[.int .i64 y.tick, .int .i64 y.load, .int .i64 y.want, .int .i64 y.repl, .int .i64 y.why] (0, 0) _ 5 _ rfl rfl HS.out.1 Try.underlying24 rfl advSize5 rfl) rfl ⟨rfl, HS.out.2⟩

set_option maxHeartbeats 2000000 in
set_option maxRecDepth 100000 in
theorem ringA_last_nil (w : World) : Calls Try.prog 49 #[.pointer none] w fun e w' => e = .returned (.tuple #[.agg #[.int .i64 0, .int .i64 0, .int .i64 0, .int .i64 0, .int .i64 0], .bool false]) ∧ Below w.heap.size w w' := by
  have h1 := Lib.hid ringA_len_nil
  have h2 : Hid (∀ W : World, Calls Try.prog 79 #[.pointer none, .int .i64 (-1)] W fun e w' => e = .returned (.tuple #[.agg #[.int .i64 0, .int .i64 0, .int .i64 0, .int .i64 0, .int .i64 0], .bool false]) ∧ Below W.heap.size W w') := ringA_at_no none (-1) (by omega)
  have M0 : Hid (Mem w (w.alloc (.cells #[.int .i64 0, .int .i64 0, .int .i64 0, .int .i64 0, .int .i64 0] 24)) [(w.heap.size, .cells #[.int .i64 0, .int .i64 0, .int .i64 0, .int .i64 0, .int .i64 0] 24)]) := (Mem.start w).alloc _
  go_enter Try.func49, Try.ntmps49
  go_wp2_with fail
  (with_reducible refine (h1.out _).mono ?_)
  rintro e w1 ⟨rfl, rfl⟩
  go_wp2_with fail
  (with_reducible refine (h2.out _).mono ?_)
  rintro e w2 ⟨rfl, hb⟩
  have M1 := Lib.hid (M0.out.call hb)
  have K0 := Lib.hid (M1.out.heap 0 rfl)
  clear hb M0
  go_wp2_with ((with_reducible refine wpList_store_rowAs rfl 24 _ _ rfl (w.heap.size) #[.int .i64 0, .int .i64 0, .int .i64 0, .int .i64 0, .int .i64 0] ?_ ?_ 24 #[.int .i64 0, .int .i64 0, .int .i64 0, .int .i64 0, .int .i64 0] 5 ?_ (by kernel_rfl) rfl rfl (by simp [Value.oneCell']) ?_); exact rfl; exact rfl; exact K0.out)
  exact bodyPost_ret (results_row_tmp rfl _ _ w.heap.size 24 #[.int .i64 0, .int .i64 0, .int .i64 0, .int .i64 0, .int .i64 0] (0, 0) _ 5 _ rfl rfl ((M1.out.setRow 0 rfl).heap 0 rfl) Try.underlying24 rfl advSize5 rfl) rfl ⟨rfl, (M1.out.setRow 0 rfl).below⟩

set_option maxHeartbeats 2000000 in
set_option maxRecDepth 100000 in
theorem ringA_last {w : World} {B r : Nat} {v : Value} {room : Nat} {L : List Adv} (h : RingA w B r v room L) (hl : 0 < L.length) (y : Adv) (hy : L[L.length - 1]? = some y) :
    Calls Try.prog 49 #[.pointer (some ⟨r, 0, none⟩)] w fun e w' => e = .returned (.tuple #[.agg #[.int .i64 y.tick, .int .i64 y.load, .int .i64 y.want, .int .i64 y.repl, .int .i64 y.why], .bool true]) ∧ Below w.heap.size w w' := by
  have hh := h.below (below1 w (.cells #[.int .i64 0, .int .i64 0, .int .i64 0, .int .i64 0, .int .i64 0] 24))
  have h1 := Lib.hid (ringA_lenOf hh)
  have h2 := ringA_at_yes hh (L.length - 1) (by omega) y hy
  rw [show ((L.length - 1 : Nat) : Int) = (L.length : Int) - 1 by omega] at h2
  have H2 := Lib.hid h2
  have M0 : Hid (Mem w (w.alloc (.cells #[.int .i64 0, .int .i64 0, .int .i64 0, .int .i64 0, .int .i64 0] 24)) [(w.heap.size, .cells #[.int .i64 0, .int .i64 0, .int .i64 0, .int .i64 0, .int .i64 0] 24)]) := (Mem.start w).alloc _
  have hlen := h.len
  obtain ⟨n, en⟩ : ∃ n, n = L.length := ⟨_, rfl⟩
  rw [← en] at h1 H2 hlen hl
  clear h2 h hh hy en
  go_enter Try.func49, Try.ntmps49
  go_wp2_with fail
  (with_reducible refine h1.out.mono ?_)
  rintro e w1 ⟨rfl, rfl⟩
  go_wp2_with fail
  (with_reducible refine H2.out.mono ?_)
  rintro e w2 ⟨rfl, hb⟩
  have M1 := Lib.hid (M0.out.call hb)
  have K0 := Lib.hid (M1.out.heap 0 rfl)
  clear hb M0
  go_wp2_with ((with_reducible refine wpList_store_rowAs rfl 24 _ _ rfl (w.heap.size) #[.int .i64 y.tick, .int .i64 y.load, .int .i64 y.want, .int .i64 y.repl, .int .i64 y.why] ?_ ?_ 24 #[.int .i64 0, .int .i64 0, .int .i64 0, .int .i64 0, .int .i64 0] 5 ?_ (by kernel_rfl) rfl rfl (by simp [Value.oneCell']) ?_); exact rfl; exact rfl; exact K0.out)
  exact bodyPost_ret (results_row_tmp rfl _ _ w.heap.size 24 #[.int .i64 y.tick, .int .i64 y.load, .int .i64 y.want, .int .i64 y.repl, .int .i64 y.why] (0, 0) _ 5 _ rfl rfl ((M1.out.setRow 0 rfl).heap 0 rfl) Try.underlying24 rfl advSize5 rfl) rfl ⟨rfl, (M1.out.setRow 0 rfl).below⟩
end Go.Proofs.Ytildjnibdappnaa
