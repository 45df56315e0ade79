/- Layer 14: a ring of decisions as a list: the loop over all things. -/
import Derived.Test.YtildjnibdappnaaRingI4
import Derived.Test.YtildjnibdappnaaRingA4
namespace Go.Proofs.Ytildjnibdappnaa
open Go.ChangeShapes Go.WideShapes Go.ChangeAt Go.RowKit Go.Shelf

attribute [local go_sem] Oper.semAt_some

theorem Advs.keeps {W W' : World} {p : Option Addr} {b : Nat} {l : List Adv} (h : Advs W p l) (hp : ∀ ad, p = some ad → ad.block = b) (hk : KeepsAt b W W') : Advs W' p l := by
  rcases h with h0 | ⟨b', off, e, hb, hc⟩
  · exact .inl h0
  · obtain rfl : b' = b := hp _ e
    refine .inr ⟨b', off, e, ?_, fun j hj => hk.cell.trans (hc j hj)⟩
    have h1 : W'.heap[b']? = W.heap[b']? := hk
    rw [Array.getElem?_eq_getElem hb] at h1
    exact lt_of_heap h1
theorem KeepsAt.alloc {b : Nat} (W : World) (o : Obj) (hb : b < W.heap.size) : KeepsAt b W (W.alloc o) := heap_alloc_past _ _ _ hb

set_option maxRecDepth 100000 in
set_option maxHeartbeats 2000000 in
theorem ringA_all1_in (F : Fence) (n : Nat) (h7 : F.fn 109) (hro : F.round = none) (hn : 1 ≤ n) (l Bs b : Nat) (p : Option Addr) (cap : Nat) (zs : List Adv) (hlen : zs.length ≤ 9223372036854775807) (J Jx : List Adv → World → Prop)
    (W : World) (hJ : AbidesFrom W.heap.size J)
    (hY : ∀ pre x W, J pre W → pre.length < zs.length → YieldAt F (n - 1) Try.prog l #[.agg #[.int .i64 x.tick, .int .i64 x.load, .int .i64 x.want, .int .i64 x.repl, .int .i64 x.why]] W fun e W' =>
      (e = .returned (.bool true) ∧ J (pre ++ [x]) W' ∧ KeepsAt b W W') ∨ (e = .returned (.bool false) ∧ Jx (pre ++ [x]) W'))
    (hb : b < W.heap.size) (hBs : W.cell? ⟨Bs, 0, none⟩ = some (.slice p zs.length cap)) (hp : Advs W p zs) (hpb : ∀ ad, p = some ad → ad.block = b) (h0 : J [] W) :
    CallsIn F n Try.prog 109 #[.func (.yield l) #[] #[], .pointer (some ⟨Bs, 0, none⟩)] W fun e W' => (∃ v, e = .returned v) ∧
      ((∃ ys, ys = upto (fun j => zs[j]?.getD default) zs.length ∧ J ys W') ∨ (∃ pre, (∃ k, k ≤ zs.length ∧ pre = upto (fun j => zs[j]?.getD default) k) ∧ Jx pre W')) := by
  have HP := Lib.hid hp
  have HPB := Lib.hid hpb
  have HJ := Lib.hid hJ
  have HB := Lib.hid hb
  obtain ⟨len, elen⟩ : ∃ n, n = zs.length := ⟨_, rfl⟩
  have EL := Lib.hid elen
  rw [← elen] at hlen hBs ⊢
  simp only [← elen] at hY
  clear hp elen hpb hJ hb
  refine callsIn_of_wp Try.func109 rfl h7 ?_ hro
  simp only [Try.ntmps109, List.size_toArray, List.length_cons, List.length_nil, Nat.reduceAdd, Nat.reduceSub, Array.replicate_succ, Array.replicate_zero, List.push_toArray, List.append_toArray, List.nil_append, List.cons_append]
  gi_wp2
  gi_loopw [7] (fun i wr => ∃ k : Nat, k ≤ len ∧ i = .int .i64 k ∧ J (upto (fun j => zs[j]?.getD default) k) wr ∧ KeepsAt b W wr)
    (fun i _ => len - (intOf i).toNat)
  case atStart => exact ⟨0, Nat.zero_le _, rfl, h0, rfl⟩
  case round =>
    obtain ⟨k, hk, rfl, hJs, hnx⟩ := hrel
    by_cases hlt : k < len
    · have hA := HP.out.keeps HPB.out hnx
      obtain ⟨b1, off, rfl, hbw, c0, c1, c2, c3, c4⟩ := hA.cells k (by have := EL.out; omega)
      obtain ⟨x, ex⟩ : ∃ x, x = zs[k]?.getD default := ⟨_, rfl⟩
      rw [← ex] at c0 c1 c2 c3 c4
      have hJ2 : J (upto (fun j => zs[j]?.getD default) k) (wr.alloc (.cells #[.int .i64 x.tick, .int .i64 x.load, .int .i64 x.want, .int .i64 x.repl, .int .i64 x.why] 24)) := HJ.out _ _ _ none hJs (World.grownBy_alloc wr _ none) (fun r e => by cases e)
      obtain ⟨fn, tmps, assign, body, hy, hR⟩ := hY _ x _ hJ2 (by rw [upto_length]; exact hlt)
      have HU := Lib.hid (upto_succ (fun j => zs[j]?.getD default) k)
      have HK : Hid (KeepsAt b wr (wr.alloc (.cells #[.int .i64 x.tick, .int .i64 x.load, .int .i64 x.want, .int .i64 x.repl, .int .i64 x.why] 24))) := KeepsAt.alloc _ _ (by obtain rfl : b1 = b := HPB.out _ rfl; exact hbw)
      rw [← ex] at HU
      have HNX := Lib.hid hnx
      have HR := Lib.hid hR
      have HJs := Lib.hid hJs
      clear hA hJs hJ2 hnx hR ex
      gi_wp2
      refine HR.out.mono ?_
      rintro e W3 (⟨rfl, hJ3, hk3⟩ | ⟨rfl, hJx3⟩)
      · gi_wp2
        go_roundw
        case rel => exact ⟨k + 1, by omega, by simp, by rw [HU.out]; exact hJ3, (HNX.out.trans HK.out).trans hk3⟩
        case measure => simp [intOf]; omega
      · gi_wp2
        refine bodyPost_ret (results_none rfl _ _ _) rfl ?_
        exact ⟨⟨_, rfl⟩, .inr ⟨_, ⟨k + 1, by omega, HU.out.symm⟩, hJx3⟩⟩
    · obtain rfl : k = len := by omega
      gi_wp2
      go_end0
      exact ⟨⟨_, rfl⟩, .inl ⟨_, rfl, hJs⟩⟩

theorem ringA_all_stops (F : Fence) (n : Nat) (h7 : F.fn 109) (hro : F.round = none) (hn : 1 ≤ n) (Bs b : Nat) (p : Option Addr) (cap : Nat) (zs : List Adv) (hlen : zs.length ≤ 9223372036854775807) (w : World) (hBs : Bs < w.heap.size) (hb : b < w.heap.size)
    (hc : w.cell? ⟨Bs, 0, none⟩ = some (.slice p zs.length cap)) (hp : Advs w p zs) (hpb : ∀ ad, p = some ad → ad.block = b) :
    SeqStopsK F n Try.prog 109 #[.pointer (some ⟨Bs, 0, none⟩)] (fun x : Adv => #[.agg #[.int .i64 x.tick, .int .i64 x.load, .int .i64 x.want, .int .i64 x.repl, .int .i64 x.why]]) (KeepsAt b) (fun ys => ys = zs) (fun pre => pre <+: zs) zs.length w := fun l J Jx W hW hJ _ hY h0 => by
  have hc' := (hW.cell (p := ⟨Bs, 0, none⟩) hBs).trans hc
  refine (ringA_all1_in F n h7 hro hn l Bs b p cap zs hlen J Jx W hJ hY (Nat.lt_of_lt_of_le hb hW.size) hc' (hp.below hW) hpb h0).mono ?_
  rintro e W' ⟨he, ⟨ys, rfl, hj⟩ | ⟨pre, ⟨k, hk, rfl⟩, hj⟩⟩
  · exact ⟨he, .inl ⟨_, upto_all zs default, hj⟩⟩
  · exact ⟨he, .inr ⟨_, by rw [upto_take zs default hk]; exact List.take_prefix _ _, hj⟩⟩

set_option maxRecDepth 100000 in
set_option maxHeartbeats 2000000 in
theorem ringA_list_of {w : World} {q : Option Addr} (zs : List Adv) (hz : zs.length ≤ 4096)
    (hall : ∀ w', Below w.heap.size w w' → Calls Try.prog 80 #[.pointer q] w' (AllOf 109 22 w' zs.length 5 (advVals zs))) :
    Calls Try.prog 53 #[.pointer q] w fun e w' => ∃ v, e = .returned v ∧ Owns w' w.heap.size 5 v zs.length (advVals zs) ∧ Below w.heap.size w w' := by
  refine (callsIn_wide (n := 3)).1 ?_
  have hro : Fence.wide.round = none := rfl
  have h1 : 1 ≤ 3 := by omega
  obtain ⟨i0, hi, hz0, hz1, hz2⟩ := info_parts advInfo
  have HALL := Lib.hid (hall _ (below1 w (.cells #[.slice none 0 0] 22)))
  clear hall
  refine callsIn_of_wp_marks Try.func53 rfl trivial ?_ hro
  simp only [Try.ntmps53, List.size_toArray, List.length_cons, List.length_nil, Nat.reduceAdd, Nat.reduceSub, Array.replicate_succ, Array.replicate_zero, List.push_toArray, List.append_toArray, List.nil_append, List.cons_append]
  gi_wp2_with (refine ⟨trivial, ?_⟩; gi_at_call 80; refine (callsIn_wide.2 HALL.out).mono ?_; rintro e w2 ⟨Bn, u, rfl, hBn, hk, hO, hb2⟩)
  have bO : Boxed w2 w.heap.size 22 (.slice none 0 0) := (hb2.block _ (by simp)).trans (heap_alloc_at _ _ _ rfl)
  have hB0 : Below w.heap.size w w2 := (below1 w _).trans (hb2.mono (by simp))
  have hBnw : Bn < w2.heap.size := lt_of_heap hk
  have hcB : w2.cell? ⟨Bn, 0, none⟩ = some u := by rw [cell_of_row _ _ _ _ _ _ hk]; rfl
  simp only [World.size_alloc] at hBn
  obtain ⟨p, cap, rfl, hcap, hA⟩ := advs_of_owns hO
  obtain ⟨b, hbw, hbn, hp⟩ : ∃ b, b < w2.heap.size ∧ w.heap.size < b ∧ ∀ ad, p = some ad → ad.block = b := by
    rcases hO.2 with ⟨h, h0⟩ | ⟨g, cap', h0, h2, h3, _, h5, _⟩
    · refine ⟨Bn, hBnw, by omega, fun ad had => ?_⟩
      simp at h; rw [h.1] at had; cases had
    · refine ⟨g, h3, by omega, fun ad had => ?_⟩
      simp at h0; rw [h0.1] at had; cases had; rfl
  clear hO hk hb2
  have hrow0 : w2.ownsRow w2.heap.size 24 5 (.slice none 0 0) 0 [] := World.ownsRow_nil _ _ _ _
  refine wpIn_rangeFunc_ownH hro h1 (gf := 109) (lb := #[.pointer (some ⟨Bn, 0, none⟩)]) rfl trivial (enters_of Try.func109 (by kernel_rfl) rfl)
    (ringA_all_stops Fence.wide (3 - 1) trivial hro (by omega) Bn b p cap zs (by omega) w2 hBnw hbw hcB hA hp) KeepsAt.trans (fun W l o o' hl _ _ _ => KeepsAt.put hbw hl) (Below.refl _ _) (fun _ => rfl)
    (fun pre W => (∃ v, Boxed W w.heap.size 22 v ∧ W.ownsRow w2.heap.size 24 5 v pre.length (advVals pre) ∧ True) ∧ Below w.heap.size w W ∧ Below 0 w2 W)
    (fun _ _ _ => False)
    (OwnFrom.and (Own.from (holdsRow_own w2.heap.size w.heap.size 22 24 5 (fun pre => pre.length) (fun pre => advVals pre) (fun _ _ => True)) _) (OwnFrom.and (ownFrom_below (Nat.le_refl _) hB0.size) (ownFrom_below (Nat.zero_le _) (Nat.zero_le _))))
    (fun _ _ _ _ _ hs _ _ => hs)
    ⟨⟨_, bO, hrow0, trivial⟩, hB0, Below.refl _ _⟩
    (fun x a' W => ∃ X, a' = { tmps := #[.pointer q, undef, .slice none 0 0, .pointer (some ⟨w.heap.size, 0, none⟩), .pointer (some ⟨X, 0, none⟩), .pointer q, .func (.func 109) #[] #[.pointer (some ⟨Bn, 0, none⟩)], .agg #[.int .i64 x.tick, .int .i64 x.load, .int .i64 x.want, .int .i64 x.repl, .int .i64 x.why], undef, undef, undef, undef, undef], defers := [] } ∧ W.heap[X]? = some (.cells #[.int .i64 x.tick, .int .i64 x.load, .int .i64 x.want, .int .i64 x.repl, .int .i64 x.why] 24 (0, 0)))
    (fun x a' _ W W' row hs hg hr => by
      obtain ⟨X, h1, h2⟩ := hs
      exact ⟨X, h1, (grownBy_keeps_cells hg (fun r e => (hr r e).2) h2 rfl).trans h2⟩)
    ?assign ?body ?done ?stop
  case assign =>
    intro l pre x W K hI hK
    have hI' := hI
    obtain ⟨_, _, hB2⟩ := hI'
    have hWs := hB2.size
    have hG := hK { tmps := #[.pointer q, undef, .slice none 0 0, .pointer (some ⟨w.heap.size, 0, none⟩), .pointer (some ⟨W.heap.size, 0, none⟩), .pointer q, .func (.func 109) #[] #[.pointer (some ⟨Bn, 0, none⟩)], .agg #[.int .i64 x.tick, .int .i64 x.load, .int .i64 x.want, .int .i64 x.repl, .int .i64 x.why], undef, undef, undef, undef, undef], defers := [] } (W.alloc (.cells #[.int .i64 x.tick, .int .i64 x.load, .int .i64 x.want, .int .i64 x.repl, .int .i64 x.why] 24)) ((KeepsOthers.alloc W _).from _) (KeepsAt.alloc _ _ (by omega)) ((OwnFrom.and (Own.from (holdsRow_own w2.heap.size w.heap.size 22 24 5 (fun pre => pre.length) (fun pre => advVals pre) (fun _ _ => True)) _) (OwnFrom.and (ownFrom_below (Nat.le_refl _) hB0.size) (ownFrom_below (Nat.zero_le _) (Nat.zero_le _)))).alloc _ hI) ⟨W.heap.size, rfl, heap_alloc_at _ _ _ rfl⟩
    clear hI hK hB2
    gi_wp2
    exact hG
  case body =>
    rintro l pre x a' W _ _ ⟨⟨v, hv, hrow, _⟩, hB, hB2⟩ ⟨X, rfl, hX⟩ hlt
    have hc := hv.cell
    have hWs : w2.heap.size ≤ W.heap.size := hB2.size
    have x0 : W.cell? ⟨X, 0, none⟩ = some (.int .i64 x.tick) := by rw [cell_of_row _ _ _ _ _ _ hX]; rfl
    have x1 : W.cell? ⟨X, 0 + 1, none⟩ = some (.int .i64 x.load) := by rw [cell_of_row _ _ _ _ _ _ hX]; rfl
    have x2 : W.cell? ⟨X, 0 + 2, none⟩ = some (.int .i64 x.want) := by rw [cell_of_row _ _ _ _ _ _ hX]; rfl
    have x3 : W.cell? ⟨X, 0 + 3, none⟩ = some (.int .i64 x.repl) := by rw [cell_of_row _ _ _ _ _ _ hX]; rfl
    have x4 : W.cell? ⟨X, 0 + 4, none⟩ = some (.int .i64 x.why) := by rw [cell_of_row _ _ _ _ _ _ hX]; rfl
    simp only [Nat.zero_add] at x1 x2 x3 x4
    clear hX
    gi_wp2_with (gi_at_builtin; refine wpListIn_append_own _ rfl _ _ 22 rfl w2.heap.size 24 i0 (.agg #[.int .i64 0, .int .i64 0, .int .i64 0, .int .i64 0, .int .i64 0]) 5 40 Try.underlying22 hi hz0 hz1 hz2 rfl (by decide) _ _ _ rfl (hrow.alloc _) ⟨W.heap.size, 0, none⟩ 1 1 (advVals [x]) rfl rfl (fun j u hu => by rw [Addr.add_mid, Nat.zero_add, cell_of_row _ _ _ _ _ _ (heap_alloc_at _ _ _ rfl)]; simpa [advVals] using hu) (advVals_one1 x) (by unfold maxLen; omega) (by omega) (by simp; omega) ?_; intro v' w1 hown' hgrow _; obtain ⟨g', cap', rfl⟩ := ownsRow_succ hown'; obtain ⟨hv1, hv2, hr2, hk2, hb2, hka⟩ := appended2 hv (by decide) hrow hWs hB0.size (Nat.le_refl _) hown' hgrow; have hc1 := hv1.cell; have hf1 := hv1.frozen)
    exact ⟨hk2.from _, hka b hbw (by omega), ⟨_, hv2, by rw [advVals_append, List.length_append]; exact hr2, trivial⟩, hB.trans hb2, hB2.trans (hb2.mono (Nat.zero_le _))⟩
  case done =>
    rintro D ys W hD rfl ⟨⟨v, hv, hrow, _⟩, hB, hB2⟩ hK
    have hc := hv.cell
    gi_wp2
    refine ⟨by simp, .inl ⟨_, _, rfl, run_takeDeferred hK, ?_⟩⟩
    exact ⟨_, results_tmp rfl _ _ _, v, rfl, (owns_of_row (ownsRow_putObj hrow _ hK rfl)).mono hB0.size, hB.trans (belowK_b (w := w) (Nat.le_refl _) W D _ _ (Nat.le_trans hB0.size hD) hK rfl rfl)⟩
  case stop =>
    rintro D c pre W _ _ h _
    exact h.elim
end Go.Proofs.Ytildjnibdappnaa
