/- Layer 23: a queue of strings as a list. -/
import Derived.Test.YtapgcbjlgekpeaaJFifoS2
import Derived.Test.YtapgcbjlgekpeaaJFifoI3
namespace Go.Proofs.Ytapgcbjlgekpeaa
open Go.ChangeShapes Go.WideShapes Go.ChangeAt Go.RowKit Go.Shelf

attribute [local go_sem] Oper.semAt_some


set_option maxRecDepth 100000 in
theorem cloneT_nil (w : World) : Calls Try.prog 111 #[.slice none 0 0] w fun e w' => e = .returned (.slice none 0 0) ∧ w = w' := by
  have hq : ∀ (w : World), (binOp .eql 92 (.slice none 0 0) (.slice none 0 0)).run Try.prog w = .ok (.bool true) w := fun w => Lib.run_eql_slice_nil w 92 9 none 0 0 0 0 Try.underlying92
  go_enter Try.func111, Try.ntmps111
  go_wp2
  go_ret
  exact ⟨rfl, rfl⟩
set_option maxRecDepth 100000 in
theorem cloneT_some (g off n c : Nat) (xs : List Value) (hn : n ≤ 100000) (h1 : ∀ u ∈ xs, u.oneCell' = true) (w : World) (hs : Src w (.slice (some ⟨g, off, none⟩) n c) n 1 xs) :
    Calls Try.prog 111 #[.slice (some ⟨g, off, none⟩) n c] w fun e w' => ∃ v, e = .returned v ∧ Owns w' w.heap.size 1 v n xs ∧ Below w.heap.size w w' := by
  have hq : ∀ (w : World), (binOp .eql 92 (.slice (some ⟨g, off, none⟩) n c) (.slice none 0 0)).run Try.prog w = .ok (.bool false) w := fun w => Lib.run_eql_slice_nil w 92 9 (some ⟨g, off, none⟩) n c 0 0 Try.underlying92
  obtain ⟨p', c', e', hl, hz, hsc⟩ := hs.below (below1 w (.cells #[] 9))
  obtain ⟨rfl, rfl⟩ : p' = some ⟨g, off, none⟩ ∧ c' = c := by simp at e'; exact ⟨e'.1.symm, e'.2.symm⟩
  have HL := Lib.hid hl
  have HC := Lib.hid (fun ad h => (hsc ad h).2)
  have H1 := Lib.hid h1
  have O : Hid (Owns (w.alloc (.cells #[] 9)) w.heap.size 1 (.slice (some ⟨w.heap.size, 0, none⟩) 0 0) 0 []) :=
    ⟨rfl, .inr ⟨w.heap.size, 0, rfl, Nat.le_refl _, by simp, Nat.le_refl _, fun j u hu => by simp at hu, fun j hj => by simp at hj⟩⟩
  clear hl hz hsc e' hs h1
  go_enter Try.func111, Try.ntmps111
  go_wp2_with (at_builtin; refine wpList_append_any2 rfl _ _ 92 rfl w.heap.size 9 (.string ByteArray.empty) 1 16 Try.underlying92 fifoS_info rfl (by decide) _ _ _ rfl O.out _ _ _ xs rfl (by rw [HL.out]) (fun h => by cases h) HC.out H1.out (by unfold maxLen; omega) (by omega) (by simp) ?_; intro u1 x1 ha1 hg1 hw1)
  go_ret
  exact ⟨_, rfl, by simpa using ha1, (below1 w _).grown hg1 (by simp) (fun k hk => Nat.le_of_eq (Option.some.inj (show some w.heap.size = some k from hk)))⟩
theorem fifoS_clone {w : World} {B : Nat} {v : Value} {L : List ByteArray} (h : OwnsO w B 1 v L.length (strVals L)) (hn : L.length ≤ 100000) :
    Calls Try.prog 111 #[v] w fun e w' => ∃ u, e = .returned u ∧ Owns w' w.heap.size 1 u L.length (strVals L) ∧ Below w.heap.size w w' := by
  rcases h.2 with ⟨rfl, h0⟩ | ⟨g, q, cap, rfl, _⟩
  · refine (cloneT_nil w).mono ?_
    rintro e w' ⟨rfl, rfl⟩
    have : L = [] := List.length_eq_zero_iff.1 h0
    subst this
    exact ⟨_, rfl, owns_nil _ _ _, Below.refl _ _⟩
  · obtain ⟨p, c, e, h1, h2, h3⟩ := h.src
    exact cloneT_some g q L.length cap (strVals L) hn (strVals_one2 L) w ⟨p, c, e, h1, h2, h3⟩

section
variable {w : World} {B b o : Nat} {cs : Array Value} {T : TypeId} {v : Value} {L : List ByteArray}
set_option maxRecDepth 100000 in
theorem fifoS_allfn (h : QAt w B 1 b o cs T v L.length (strVals L)) (hn : L.length ≤ 100000) : Calls Try.prog 54 #[.pointer (some ⟨b, o, none⟩)] w (AllOf2 112 92 w L.length 1 (strVals L)) := by
  have P1 := Lib.hid (fifoS_all h)
  have P2 := Lib.hid (fifoS_clone h.owns hn)
  obtain ⟨p, cap, rfl, _⟩ := h.owns.sl
  obtain ⟨n, en⟩ : ∃ n, n = L.length := ⟨_, rfl⟩
  rw [← en] at P1 P2 ⊢
  clear h en
  go_enter Try.func54, Try.ntmps54
  go_wp2_with fail
  (with_reducible refine P1.out.mono ?_)
  rintro e w1 ⟨rfl, rfl⟩
  go_wp2_with fail
  (with_reducible refine P2.out.mono ?_)
  rintro e w1 ⟨u, rfl, hO, hb⟩
  obtain ⟨pu, cu, rfl, _⟩ := hO.sl
  have O1 := Lib.hid (hO.below (below1 w1 (.cells #[.slice pu n cu] 92)))
  have B1 := Lib.hid hb
  clear hO hb
  go_wp2
  go_ret
  exact ⟨w1.heap.size, _, rfl, B1.out.size, heap_alloc_at _ _ _ rfl, O1.out, B1.out.alloc B1.out.size _⟩
end

set_option maxRecDepth 100000 in
set_option maxHeartbeats 2000000 in
theorem fifoS_all1_in (F : Fence) (n : Nat) (h7 : F.fn 112) (hro : F.round = none) (hn : 1 ≤ n) (l Bs b : Nat) (p : Option Addr) (cap : Nat) (zs : List ByteArray) (hlen : zs.length ≤ 9223372036854775807) (J Jx : List ByteArray → World → Prop)
    (hY : ∀ pre x W, J pre W → pre.length < zs.length → YieldAt F (n - 1) Try.prog l #[.string x] W fun e W' =>
      (e = .returned (.bool true) ∧ J (pre ++ [x]) W' ∧ KeepsAt b W W') ∨ (e = .returned (.bool false) ∧ Jx (pre ++ [x]) W'))
    (W : World) (hBs : W.cell? ⟨Bs, 0, none⟩ = some (.slice p zs.length cap)) (hp : zs.length = 0 ∨ ∃ off, p = some ⟨b, off, none⟩ ∧ ∀ j, j < zs.length → W.cell? ⟨b, off + j, none⟩ = some (.string (zs[j]?.getD ByteArray.empty))) (h0 : J [] W) :
    CallsIn F n Try.prog 112 #[.func (.yield l) #[] #[], .pointer (some ⟨Bs, 0, none⟩)] W fun e W' => (∃ v, e = .returned v) ∧
      ((∃ ys, ys = upto (fun j => zs[j]?.getD ByteArray.empty) zs.length ∧ J ys W') ∨ (∃ pre, (∃ k, k ≤ zs.length ∧ pre = upto (fun j => zs[j]?.getD ByteArray.empty) k) ∧ Jx pre W')) := by
  obtain ⟨len, elen⟩ : ∃ n, n = zs.length := ⟨_, rfl⟩
  rw [← elen] at hlen hBs hp ⊢
  simp only [← elen] at hY
  have HP := Lib.hid hp
  clear hp elen
  refine callsIn_of_wp Try.func112 rfl h7 ?_ hro
  simp only [Try.ntmps112, List.size_toArray, List.length_cons, List.length_nil, Nat.reduceAdd, Nat.reduceSub, Array.replicate_succ, Array.replicate_zero, List.push_toArray, List.append_toArray, List.nil_append, List.cons_append]
  gi_wp2
  gi_loopw [7] (fun i wr => ∃ k : Nat, k ≤ len ∧ i = .int .i64 k ∧ J (upto (fun j => zs[j]?.getD ByteArray.empty) k) wr ∧ KeepsAt b W wr)
    (fun i _ => len - (intOf i).toNat)
  case atStart => exact ⟨0, Nat.zero_le _, rfl, h0, rfl⟩
  case round =>
    obtain ⟨k, hk, rfl, hJs, hnx⟩ := hrel
    by_cases hlt : k < len
    · obtain ⟨off, rfl, hc⟩ := HP.out.resolve_left (by omega)
      have hcx' : wr.cell? ⟨b, off + k, none⟩ = some (.string (zs[k]?.getD ByteArray.empty)) := hnx.cell.trans (hc k hlt)
      clear hc
      obtain ⟨fn, tmps, assign, body, hy, hR⟩ := hY _ (zs[k]?.getD ByteArray.empty) wr hJs (by rw [upto_length]; exact hlt)
      gi_wp2
      refine hR.mono ?_
      rintro e W3 (⟨rfl, hJ3, hk3⟩ | ⟨rfl, hJx3⟩)
      · gi_wp2
        go_roundw
        case rel => exact ⟨k + 1, by omega, by simp, by rw [upto_succ]; exact hJ3, hnx.trans hk3⟩
        case measure => simp [intOf]; omega
      · gi_wp2
        refine bodyPost_ret (results_none rfl _ _ _) rfl ?_
        exact ⟨⟨_, rfl⟩, .inr ⟨_, ⟨k + 1, by omega, (upto_succ _ _).symm⟩, hJx3⟩⟩
    · obtain rfl : k = len := by omega
      gi_wp2
      go_end0
      exact ⟨⟨_, rfl⟩, .inl ⟨_, rfl, hJs⟩⟩

theorem fifoS_all_stops (F : Fence) (n : Nat) (h7 : F.fn 112) (hro : F.round = none) (hn : 1 ≤ n) (Bs b : Nat) (p : Option Addr) (cap : Nat) (zs : List ByteArray) (hlen : zs.length ≤ 9223372036854775807) (w : World) (hBs : Bs < w.heap.size) (hb : b < w.heap.size)
    (hc : w.cell? ⟨Bs, 0, none⟩ = some (.slice p zs.length cap)) (hp : zs.length = 0 ∨ ∃ off, p = some ⟨b, off, none⟩ ∧ ∀ j, j < zs.length → w.cell? ⟨b, off + j, none⟩ = some (.string (zs[j]?.getD ByteArray.empty))) :
    SeqStopsK F n Try.prog 112 #[.pointer (some ⟨Bs, 0, none⟩)] (fun x : ByteArray => #[Value.string x]) (KeepsAt b) (fun ys => ys = zs) (fun pre => pre <+: zs) zs.length w := fun l J Jx W hW _ _ hY h0 => by
  have hc' := (hW.cell (p := ⟨Bs, 0, none⟩) hBs).trans hc
  have hp' : zs.length = 0 ∨ ∃ off, p = some ⟨b, off, none⟩ ∧ ∀ j, j < zs.length → W.cell? ⟨b, off + j, none⟩ = some (.string (zs[j]?.getD ByteArray.empty)) := by
    rcases hp with hp | ⟨off, h1, h3⟩
    · exact .inl hp
    · exact .inr ⟨off, h1, fun j hj => (hW.cell (p := ⟨b, off + j, none⟩) hb).trans (h3 j hj)⟩
  refine (fifoS_all1_in F n h7 hro hn l Bs b p cap zs hlen J Jx hY W hc' hp' h0).mono ?_
  rintro e W' ⟨he, ⟨ys, rfl, hj⟩ | ⟨pre, ⟨k, hk, rfl⟩, hj⟩⟩
  · exact ⟨he, .inl ⟨_, upto_all zs ByteArray.empty, hj⟩⟩
  · exact ⟨he, .inr ⟨_, by rw [upto_take zs ByteArray.empty hk]; exact List.take_prefix _ _, hj⟩⟩


end Go.Proofs.Ytapgcbjlgekpeaa
