/- Layer 23: a queue of ints as a list. -/
import Derived.Test.YtapgcbjlgekpeaaJFifoI2
import Derived.Test.YtapgcbjlgekpeaaJRingA
import Derived.Test.YtapgcbjlgekpeaaJRing2
namespace Go.Proofs.Ytapgcbjlgekpeaa
open Go.ChangeShapes Go.WideShapes Go.ChangeAt Go.RowKit Go.Shelf

attribute [local go_sem] Oper.semAt_some

/-- What 'All' hands back: a function that has all things in a box. -/
def AllOf2 (fn T : Nat) (w : World) (n sz : Nat) (xs : List Value) (e : Ending) (w' : World) : Prop :=
  ∃ Bn u, e = .returned (.func (.func fn) #[] #[.pointer (some ⟨Bn, 0, none⟩)]) ∧ w.heap.size ≤ Bn ∧ w'.heap[Bn]? = some (.cells #[u] T (0, 0)) ∧ Owns w' w.heap.size sz u n xs ∧ Below w.heap.size w w'

theorem fifoI_clone {w : World} {B : Nat} {v : Value} {L : List Int} (h : OwnsO w B 1 v L.length (intVals L)) (hn : L.length ≤ 100000) :
    Calls Try.prog 155 #[v] w fun e w' => ∃ u, e = .returned u ∧ Owns w' w.heap.size 1 u L.length (intVals L) ∧ Below w.heap.size w w' := by
  rcases h.2 with ⟨rfl, h0⟩ | ⟨g, q, cap, rfl, _⟩
  · refine (cloneI_nil w).mono ?_
    rintro e w' ⟨rfl, rfl⟩
    have : L = [] := List.length_eq_zero_iff.1 h0
    subst this
    exact ⟨_, rfl, owns_nil _ _ _, Below.refl _ _⟩
  · obtain ⟨p, c, e, h1, h2, h3⟩ := h.src
    exact cloneI_some g q L.length cap (intVals L) hn (intVals_one2 L) w ⟨p, c, e, h1, h2, h3⟩

section
variable {w : World} {B b o : Nat} {cs : Array Value} {T : TypeId} {v : Value} {L : List Int}
set_option maxRecDepth 100000 in
theorem fifoI_allfn (h : QAt w B 1 b o cs T v L.length (intVals L)) (hn : L.length ≤ 100000) : Calls Try.prog 107 #[.pointer (some ⟨b, o, none⟩)] w (AllOf2 156 77 w L.length 1 (intVals L)) := by
  have P1 := Lib.hid (fifoI_all h)
  have P2 := Lib.hid (fifoI_clone h.owns hn)
  obtain ⟨p, cap, rfl, _⟩ := h.owns.sl
  obtain ⟨n, en⟩ : ∃ n, n = L.length := ⟨_, rfl⟩
  rw [← en] at P1 P2 ⊢
  clear h en
  go_enter Try.func107, Try.ntmps107
  go_wp2_with fail
  (with_reducible refine P1.out.mono ?_)
  rintro e w1 ⟨rfl, rfl⟩
  go_wp2_with fail
  (with_reducible refine P2.out.mono ?_)
  rintro e w1 ⟨u, rfl, hO, hb⟩
  obtain ⟨pu, cu, rfl, _⟩ := hO.sl
  have O1 := Lib.hid (hO.below (below1 w1 (.cells #[.slice pu n cu] 77)))
  have B1 := Lib.hid hb
  clear hO hb
  go_wp2
  go_ret
  exact ⟨w1.heap.size, _, rfl, B1.out.size, heap_alloc_at _ _ _ rfl, O1.out, B1.out.alloc B1.out.size _⟩
end

set_option maxRecDepth 100000 in
set_option maxHeartbeats 2000000 in
theorem fifoI_all1_in (F : Fence) (n : Nat) (h7 : F.fn 156) (hro : F.round = none) (hn : 1 ≤ n) (l Bs b : Nat) (p : Option Addr) (cap : Nat) (zs : List Int) (hlen : zs.length ≤ 9223372036854775807) (J Jx : List Int → World → Prop)
    (hY : ∀ pre x W, J pre W → pre.length < zs.length → YieldAt F (n - 1) Try.prog l #[.int .i64 x] W fun e W' =>
      (e = .returned (.bool true) ∧ J (pre ++ [x]) W' ∧ KeepsAt b W W') ∨ (e = .returned (.bool false) ∧ Jx (pre ++ [x]) W'))
    (W : World) (hBs : W.cell? ⟨Bs, 0, none⟩ = some (.slice p zs.length cap)) (hp : zs.length = 0 ∨ ∃ off, p = some ⟨b, off, none⟩ ∧ ∀ j, j < zs.length → W.cell? ⟨b, off + j, none⟩ = some (.int .i64 (zs[j]?.getD 0))) (h0 : J [] W) :
    CallsIn F n Try.prog 156 #[.func (.yield l) #[] #[], .pointer (some ⟨Bs, 0, none⟩)] W fun e W' => (∃ v, e = .returned v) ∧
      ((∃ ys, ys = upto (fun j => zs[j]?.getD 0) zs.length ∧ J ys W') ∨ (∃ pre, (∃ k, k ≤ zs.length ∧ pre = upto (fun j => zs[j]?.getD 0) k) ∧ Jx pre W')) := by
  obtain ⟨len, elen⟩ : ∃ n, n = zs.length := ⟨_, rfl⟩
  rw [← elen] at hlen hBs hp ⊢
  simp only [← elen] at hY
  have HP := Lib.hid hp
  clear hp elen
  refine callsIn_of_wp Try.func156 rfl h7 ?_ hro
  simp only [Try.ntmps156, List.size_toArray, List.length_cons, List.length_nil, Nat.reduceAdd, Nat.reduceSub, Array.replicate_succ, Array.replicate_zero, List.push_toArray, List.append_toArray, List.nil_append, List.cons_append]
  gi_wp2
  gi_loopw [7] (fun i wr => ∃ k : Nat, k ≤ len ∧ i = .int .i64 k ∧ J (upto (fun j => zs[j]?.getD 0) k) wr ∧ KeepsAt b W wr)
    (fun i _ => len - (intOf i).toNat)
  case atStart => exact ⟨0, Nat.zero_le _, rfl, h0, rfl⟩
  case round =>
    obtain ⟨k, hk, rfl, hJs, hnx⟩ := hrel
    by_cases hlt : k < len
    · obtain ⟨off, rfl, hc⟩ := HP.out.resolve_left (by omega)
      have hcx' : wr.cell? ⟨b, off + k, none⟩ = some (.int .i64 (zs[k]?.getD 0)) := hnx.cell.trans (hc k hlt)
      clear hc
      obtain ⟨fn, tmps, assign, body, hy, hR⟩ := hY _ (zs[k]?.getD 0) wr hJs (by rw [upto_length]; exact hlt)
      gi_wp2
      refine hR.mono ?_
      rintro e W3 (⟨rfl, hJ3, hk3⟩ | ⟨rfl, hJx3⟩)
      · gi_wp2
        go_roundw
        case rel => exact ⟨k + 1, by omega, by simp, by rw [upto_succ]; exact hJ3, hnx.trans hk3⟩
        case measure => simp [intOf]; omega
      · gi_wp2
        refine bodyPost_ret (results_none rfl _ _ _) rfl ?_
        exact ⟨⟨_, rfl⟩, .inr ⟨_, ⟨k + 1, by omega, (upto_succ _ _).symm⟩, hJx3⟩⟩
    · obtain rfl : k = len := by omega
      gi_wp2
      go_end0
      exact ⟨⟨_, rfl⟩, .inl ⟨_, rfl, hJs⟩⟩

theorem fifoI_all_stops (F : Fence) (n : Nat) (h7 : F.fn 156) (hro : F.round = none) (hn : 1 ≤ n) (Bs b : Nat) (p : Option Addr) (cap : Nat) (zs : List Int) (hlen : zs.length ≤ 9223372036854775807) (w : World) (hBs : Bs < w.heap.size) (hb : b < w.heap.size)
    (hc : w.cell? ⟨Bs, 0, none⟩ = some (.slice p zs.length cap)) (hp : zs.length = 0 ∨ ∃ off, p = some ⟨b, off, none⟩ ∧ ∀ j, j < zs.length → w.cell? ⟨b, off + j, none⟩ = some (.int .i64 (zs[j]?.getD 0))) :
    SeqStopsK F n Try.prog 156 #[.pointer (some ⟨Bs, 0, none⟩)] (fun x : Int => #[Value.int .i64 x]) (KeepsAt b) (fun ys => ys = zs) (fun pre => pre <+: zs) zs.length w := fun l J Jx W hW _ _ hY h0 => by
  have hc' := (hW.cell (p := ⟨Bs, 0, none⟩) hBs).trans hc
  have hp' : zs.length = 0 ∨ ∃ off, p = some ⟨b, off, none⟩ ∧ ∀ j, j < zs.length → W.cell? ⟨b, off + j, none⟩ = some (.int .i64 (zs[j]?.getD 0)) := by
    rcases hp with hp | ⟨off, h1, h3⟩
    · exact .inl hp
    · exact .inr ⟨off, h1, fun j hj => (hW.cell (p := ⟨b, off + j, none⟩) hb).trans (h3 j hj)⟩
  refine (fifoI_all1_in F n h7 hro hn l Bs b p cap zs hlen J Jx hY W hc' hp' h0).mono ?_
  rintro e W' ⟨he, ⟨ys, rfl, hj⟩ | ⟨pre, ⟨k, hk, rfl⟩, hj⟩⟩
  · exact ⟨he, .inl ⟨_, upto_all zs 0, hj⟩⟩
  · exact ⟨he, .inr ⟨_, by rw [upto_take zs 0 hk]; exact List.take_prefix _ _, hj⟩⟩

set_option maxRecDepth 100000 in
set_option maxHeartbeats 2000000 in
theorem fifoI_list_of {w : World} {q : Option Addr} (zs : List Int) (hz : zs.length ≤ 4096)
    (hall : ∀ w', Below w.heap.size w w' → Calls Try.prog 107 #[.pointer q] w' (AllOf2 156 77 w' zs.length 1 (intVals zs))) :
    Calls Try.prog 48 #[.pointer q] w fun e w' => ∃ v, e = .returned v ∧ Owns w' w.heap.size 1 v zs.length (intVals zs) ∧ Below w.heap.size w w' := by
  refine (callsIn_wide (n := 3)).1 ?_
  have hro : Fence.wide.round = none := rfl
  have h1 : 1 ≤ 3 := by omega
  obtain ⟨i0, hi, hz0, hz1, hz2⟩ := info_parts fifoI_info
  have HALL := Lib.hid (hall _ (below1 w (.cells #[.slice none 0 0] 77)))
  clear hall
  refine callsIn_of_wp_marks Try.func48 rfl trivial ?_ hro
  simp only [Try.ntmps48, List.size_toArray, List.length_cons, List.length_nil, Nat.reduceAdd, Nat.reduceSub, Array.replicate_succ, Array.replicate_zero, List.push_toArray, List.append_toArray, List.nil_append, List.cons_append]
  gi_wp2_with (refine ⟨trivial, ?_⟩; gi_at_call 107; refine (callsIn_wide.2 HALL.out).mono ?_; rintro e w2 ⟨Bn, u, rfl, hBn, hk, hO, hb2⟩)
  have bO : Boxed w2 w.heap.size 77 (.slice none 0 0) := (hb2.block _ (by simp)).trans (heap_alloc_at _ _ _ rfl)
  have hB0 : Below w.heap.size w w2 := (below1 w _).trans (hb2.mono (by simp))
  have hBnw : Bn < w2.heap.size := lt_of_heap hk
  have hcB : w2.cell? ⟨Bn, 0, none⟩ = some u := by rw [cell_of_row _ _ _ _ _ _ hk]; rfl
  simp only [World.size_alloc] at hBn
  obtain ⟨p, cap, rfl, _, _, _, hcells⟩ := hO.sl
  obtain ⟨b, hbw, hbn, hp⟩ : ∃ b, b < w2.heap.size ∧ w.heap.size < b ∧ (zs.length = 0 ∨ ∃ off, p = some ⟨b, off, none⟩ ∧ ∀ j, j < zs.length → w2.cell? ⟨b, off + j, none⟩ = some (.int .i64 (zs[j]?.getD 0))) := by
    rcases hO.2 with ⟨_, h0⟩ | ⟨g, cap', h0, h2, h3, _, h5, _⟩
    · exact ⟨Bn, hBnw, by omega, .inl h0⟩
    · refine ⟨g, h3, by simp at h2; omega, .inr ⟨0, by simp at h0; exact h0.1, fun j hj => ?_⟩⟩
      rw [Nat.zero_add]
      refine h5 j _ ?_
      simp [intVals, hj]
  clear hO hcells hk hb2
  have hrow0 : w2.ownsRow w2.heap.size 3 1 (.slice none 0 0) 0 [] := World.ownsRow_nil _ _ _ _
  refine wpIn_rangeFunc_ownG hro h1 (gf := 156) (lb := #[.pointer (some ⟨Bn, 0, none⟩)]) rfl trivial (enters_of Try.func156 (by kernel_rfl) rfl)
    (fifoI_all_stops Fence.wide (3 - 1) trivial hro (by omega) Bn b p cap zs (by omega) w2 hBnw hbw hcB hp) KeepsAt.trans (fun W l o o' hl _ _ _ => KeepsAt.put hbw hl) (Below.refl _ _) (fun _ => rfl)
    (fun pre W => (∃ v, Boxed W w.heap.size 77 v ∧ W.ownsRow w2.heap.size 3 1 v pre.length (intVals pre) ∧ True) ∧ Below w.heap.size w W ∧ Below 0 w2 W)
    (fun _ _ _ => False)
    (OwnFrom.and (Own.from (holdsRow_own w2.heap.size w.heap.size 77 3 1 (fun pre => pre.length) (fun pre => intVals pre) (fun _ _ => True)) _) (OwnFrom.and (ownFrom_below (Nat.le_refl _) hB0.size) (ownFrom_below (Nat.zero_le _) (Nat.zero_le _))))
    (fun _ _ _ _ _ hs _ _ => hs)
    ⟨⟨_, bO, hrow0, trivial⟩, hB0, Below.refl _ _⟩
    (fun x => { tmps := #[.pointer q, undef, .slice none 0 0, .pointer (some ⟨w.heap.size, 0, none⟩), .int .i64 x, .pointer q, .func (.func 156) #[] #[.pointer (some ⟨Bn, 0, none⟩)], .int .i64 x, undef, undef, undef, undef, undef], defers := [] }) ?assign ?body ?done ?stop
  case assign =>
    intro l x W K hK
    gi_wp2
    exact hK
  case body =>
    rintro l pre x W ⟨⟨v, hv, hrow, _⟩, hB, hB2⟩ hlt
    have hc := hv.cell
    have hWs : w2.heap.size ≤ W.heap.size := hB2.size
    gi_wp2_with (gi_at_builtin; refine wpListIn_append_own _ rfl _ _ 77 rfl w2.heap.size 3 i0 (.int .i64 0) 1 8 Try.underlying77 hi hz0 hz1 hz2 rfl (by decide) _ _ _ rfl (hrow.alloc _) ⟨W.heap.size, 0, none⟩ 1 1 [.int .i64 x] rfl rfl (cell_one_new _ _ _) (by simp [Value.oneCell']) (by unfold maxLen; omega) (by omega) (by simp; omega) ?_; intro v' w1 hown' hgrow _; obtain ⟨g', cap', rfl⟩ := ownsRow_succ hown'; obtain ⟨hv1, hv2, hr2, hk2, hb2, hka⟩ := appended2 hv (by decide) hrow hWs hB0.size (Nat.le_refl _) hown' hgrow; have hc1 := hv1.cell; have hf1 := hv1.frozen)
    exact ⟨hk2.from _, hka b hbw (by omega), ⟨_, hv2, by rw [intVals_append, List.length_append]; exact hr2, trivial⟩, hB.trans hb2, hB2.trans (hb2.mono (Nat.zero_le _))⟩
  case done =>
    rintro D ys W hD rfl ⟨⟨v, hv, hrow, _⟩, hB, hB2⟩ hK
    have hc := hv.cell
    gi_wp2
    refine ⟨by simp, .inl ⟨_, _, rfl, run_takeDeferred hK, ?_⟩⟩
    exact ⟨_, results_tmp rfl _ _ _, v, rfl, (owns_of_row (ownsRow_putObj hrow _ hK rfl)).mono hB0.size, hB.trans (belowK_b (w := w) (Nat.le_refl _) W D _ _ (Nat.le_trans hB0.size hD) hK rfl rfl)⟩
  case stop =>
    rintro D c pre W _ _ h _
    exact h.elim

theorem fifoI_list {w : World} {B b o : Nat} {cs : Array Value} {T : TypeId} {v : Value} {L : List Int} (h : QAt w B 1 b o cs T v L.length (intVals L)) (hn : L.length ≤ 4096) :
    Calls Try.prog 48 #[.pointer (some ⟨b, o, none⟩)] w fun e w' => ∃ v, e = .returned v ∧ Owns w' w.heap.size 1 v L.length (intVals L) ∧ Below w.heap.size w w' :=
  fifoI_list_of L hn (fun w' hb => fifoI_allfn (h.below hb) (by omega))
end Go.Proofs.Ytapgcbjlgekpeaa
