/- Layer 23: FifoTexts, walked: nil queues; a queue of strings that stands in a block of its own. -/
import Derived.Test.YtapgcbjlgekpeaaJFifoS3
import Derived.Test.YtapgcbjlgekpeaaJLaws23
import Derived.Test.YtapgcbjlgekpeaaJOpenStrs
import Derived.Deep.CutBlock
namespace Go.Proofs.Ytapgcbjlgekpeaa
open Go.ChangeShapes Go.WideShapes Go.ChangeAt Go.RowKit Go.Shelf

attribute [local go_sem] Oper.semAt_some

theorem fifoS_all_nil (w : World) : Calls Try.prog 110 #[.pointer none] w fun e w' => e = .returned (.slice none 0 0) ∧ w = w' := by
  go_enter Try.func110, Try.ntmps110
  go_wp2
  go_ret
  exact ⟨rfl, rfl⟩
theorem fifoS_len_nil (w : World) : Calls Try.prog 53 #[.pointer none] w fun e w' => e = .returned (.int .i64 0) ∧ w = w' := by
  have P := Lib.hid fifoS_all_nil
  go_enter Try.func53, Try.ntmps53
  go_wp2_with ((with_reducible refine (P.out _).mono ?_); rintro e w1 ⟨rfl, rfl⟩)
  go_ret
  exact ⟨rfl, rfl⟩
theorem fifoS_put_nil (x : ByteArray) (w : World) : Calls Try.prog 51 #[.pointer none, .string x] w fun e w' => e = .returned (.bool false) ∧ w = w' := by
  go_enter Try.func51, Try.ntmps51
  go_wp2
  go_ret
  exact ⟨rfl, rfl⟩
theorem fifoS_first_nil (w : World) : Calls Try.prog 56 #[.pointer none] w fun e w' => e = .returned (.tuple #[.string ByteArray.empty, .bool false]) ∧ w = w' := by
  have P := Lib.hid fifoS_len_nil
  go_enter Try.func56, Try.ntmps56
  go_wp2_with ((with_reducible refine (P.out _).mono ?_); rintro e w1 ⟨rfl, rfl⟩)
  go_ret2
  exact ⟨rfl, rfl⟩
theorem fifoS_get_nil (w : World) : Calls Try.prog 55 #[.pointer none] w fun e w' => e = .returned (.tuple #[.string ByteArray.empty, .bool false]) ∧ w = w' := by
  have P := Lib.hid fifoS_first_nil
  go_enter Try.func55, Try.ntmps55
  go_wp2_with ((with_reducible refine (P.out _).mono ?_); rintro e w1 ⟨rfl, rfl⟩)
  go_ret2
  exact ⟨rfl, rfl⟩
set_option maxRecDepth 100000 in
theorem fifoS_place_nil (x : ByteArray) (w : World) : Calls Try.prog 108 #[.pointer none, .string x] w fun e w' => e = .returned (.int .i64 (-1)) ∧ Below w.heap.size w w' := by
  have P1 := Lib.hid fifoS_all_nil
  have c : (w.alloc (.cells #[.string x] 9)).cell? ⟨w.heap.size, 0, none⟩ = some (.string x) := by rw [cell_of_row _ _ _ _ _ _ (heap_alloc_at _ _ _ rfl)]; rfl
  have P2 : Hid (Calls Try.prog 157 #[.slice none 0 0, .func (.func 158) #[] #[.pointer (some ⟨w.heap.size, 0, none⟩)]] (w.alloc (.cells #[.string x] 9)) fun e w' => e = .returned (.int .i64 (-1)) ∧ Below (w.alloc (.cells #[.string x] 9)).heap.size (w.alloc (.cells #[.string x] 9)) w') := fifoS_index none 0 [] (by simp) x w.heap.size _ (.inl rfl) c (by simp)
  clear c
  go_enter Try.func108, Try.ntmps108
  go_wp2_with (first | ((with_reducible refine (P1.out _).mono ?_); rintro e w1 ⟨rfl, rfl⟩) | ((with_reducible refine P2.out.mono ?_); rintro e w1 ⟨rfl, hb⟩; have HB := Lib.hid hb; clear hb))
  go_ret
  exact ⟨rfl, (below1 w _).trans (HB.out.mono (by simp))⟩
theorem fifoS_has_nil (x : ByteArray) (w : World) : Calls Try.prog 57 #[.pointer none, .string x] w fun e w' => e = .returned (.bool false) ∧ Below w.heap.size w w' := by
  have P := Lib.hid (fifoS_place_nil x)
  go_enter Try.func57, Try.ntmps57
  go_wp2_with fail
  (with_reducible refine (P.out _).mono ?_)
  rintro e w1 ⟨rfl, hb⟩
  have HB := Lib.hid hb
  clear hb
  go_wp2
  go_ret
  exact ⟨rfl, HB.out⟩
theorem fifoS_drop_nil (x : ByteArray) (w : World) : Calls Try.prog 52 #[.pointer none, .string x] w fun e w' => e = .returned (.bool false) ∧ Below w.heap.size w w' := by
  have P := Lib.hid (fifoS_place_nil x)
  go_enter Try.func52, Try.ntmps52
  go_wp2_with fail
  (with_reducible refine (P.out _).mono ?_)
  rintro e w1 ⟨rfl, hb⟩
  have HB := Lib.hid hb
  clear hb
  go_wp2
  go_ret
  exact ⟨rfl, HB.out⟩

/-- A queue of strings that stands in a block of its own. -/
structure Fs (w wr : World) (b : Nat) (v : Value) (L : List ByteArray) : Prop where
  q : QAt wr w.heap.size 1 b 0 #[v] 94 v L.length (strVals L)
  low : w.heap.size ≤ b
  below : Below w.heap.size w wr
theorem Fs.call {w wr w' : World} {b : Nat} {v : Value} {L : List ByteArray} (h : Fs w wr b v L) (hb : Below wr.heap.size wr w') : Fs w w' b v L := ⟨h.q.below hb, h.low, h.below.trans (hb.mono h.below.size)⟩
theorem Fs.of {w wr w' : World} {b : Nat} {v : Value} {L L2 : List ByteArray} (h : Fs w wr b v L) (hq : QOf wr w.heap.size 1 b 0 #[v] 94 v L2.length (strVals L2) w') : (∃ u, Fs w w' b u L2) ∧ Turned (fun k => k = b ∨ v.ownBlock = some k) wr w' := by
  obtain ⟨u, h1, h2, h3⟩ := hq
  refine ⟨⟨u, h1, h.low, h.below.trans (h2.below (fun k hk => ?_) h.below.size)⟩, h2⟩
  rcases hk with rfl | hk
  · exact h.low
  · exact (h.q.owns.lt k hk).1
theorem Fi.drop_len {α : Type} [DecidableEq α] {L : List α} {x : α} (h : x ∈ L) : (Fi.drop L x).length + 1 = L.length := by
  rcases Fi.place_cases L x with ⟨h1, _, h4, _⟩ | ⟨_, _, _, h3⟩
  · rw [h4, List.length_append, List.length_take, List.length_drop]; omega
  · exact absurd h h3

/-- A post that lets no panic out. -/
def NoPan (Q : Exit → Act → World → Prop) : Exit → Act → World → Prop
  | .panic _, _, _ => False
  | e, a, w => Q e a w
theorem NoPan.of {Q : Exit → Act → World → Prop} : ∀ (e : Exit) (a : Act) (w : World), NoPan Q e a w → Q e a w
  | .normal, _, _, h => h
  | .ret, _, _, h => h
  | .exit _, _, _, h => h
  | .goto _, _, _, h => h
  | .panic _, _, _, h => h.elim
  | .outgrown, _, _, h => h

theorem fifoTexts_long (p : Option Addr) (N c : Nat) (most : Int) (hN : 60 < N) (hN2 : N ≤ 9223372036854775807) (w : World) : Calls Try.prog 10 #[.slice p N c, .int .i64 most] w fun e w' => e = .returned (.bool true) ∧ Below w.heap.size w w' := by
  have A := Lib.hid awake23
  have d60 : decide ((60 : Int) < (N : Int)) = true := decide_eq_true (by omega)
  have B0 := Lib.hid (below1 w (.cells #[.int .i64 most] 3))
  go_enter Try.func10, Try.ntmps10
  go_wp2_with fail
  (with_reducible refine (A.out _).mono ?_)
  rintro e w1 ⟨rfl, hb⟩
  have B1 := Lib.hid (B0.out.trans (hb.mono B0.out.size))
  clear hb
  go_wp2
  go_ret
  exact ⟨rfl, B1.out⟩

set_option maxHeartbeats 2000000 in
set_option maxRecDepth 100000 in
theorem fifoTexts_short (p : Option Addr) (N c : Nat) (l : List ByteArray) (hl : l.length = N) (most : Int) (hN : N ≤ 60) (w : World) (hs : Strs w p l) : Calls Try.prog 10 #[.slice p N c, .int .i64 most] w fun e w' => e = .returned (.bool true) ∧ Below w.heap.size w w' := by
  have A := Lib.hid awake23
  have HS := Lib.hid hs
  have HL := Lib.hid hl
  have d60 : decide ((60 : Int) < (N : Int)) = false := decide_eq_false (by omega)
  have B0 := Lib.hid (below1 w (.cells #[.int .i64 most] 3))
  have K0 : Hid ((w.alloc (.cells #[.int .i64 most] 3)).heap[w.heap.size]? = some (.cells #[.int .i64 most] 3 (0, 0))) := heap_alloc_at _ _ _ rfl
  clear hs hl
  refine (callsIn_wide (n := 3)).1 ?_
  have hro : Fence.wide.round = none := rfl
  refine callsIn_of_wp_marks Try.func10 rfl trivial ?_ hro
  simp only [Try.ntmps10, List.size_toArray, List.length_cons, List.length_nil, Nat.reduceAdd, Nat.reduceSub, Array.replicate_succ, Array.replicate_zero, List.push_toArray, List.append_toArray, List.nil_append, List.cons_append]
  refine wpIn_wide.2 ?_
  refine Code.wp_mono NoPan.of ?_
  go_upto_region 1 with fail
  generalize (w.alloc (.cells #[.int .i64 most] 3)) = W0 at *
  go_wp2_with fail
  (with_reducible refine (A.out _).mono ?_)
  rintro e w1 ⟨rfl, hb⟩
  have B1 := Lib.hid hb
  clear hb A
  go_upto_region 6 with fail
  have F0 : Hid (Fs W0 (w1.alloc (.cells #[.slice none 0 0] 94)) w1.heap.size (.slice none 0 0) []) := ⟨⟨heap_alloc_at _ _ _ rfl, rfl, ownsO_nil _ _ _, by simp [Value.ownBlock]⟩, B1.out.size, B1.out.alloc B1.out.size _⟩
  generalize hW2 : w1.alloc (.cells #[.slice none 0 0] 94) = W2 at *
  generalize hQ : w1.heap.size = Q at *
  clear hW2 hQ B1
  obtain ⟨hN3, eqi⟩ : ∃ h : Nat, (N : Int) / 2 = (h : Nat) := ⟨N / 2, by omega⟩
  go_wp2
  go_loopw [21] (fun i wr => ∃ (k : Nat) (v : Value) (M : List ByteArray), k ≤ N ∧ i = .int .i64 k ∧ M.length = k ∧ Fs W0 wr Q v M) (fun i _ => N - (intOf i).toNat)
  case atStart => exact ⟨0, _, [], by omega, rfl, rfl, F0.out⟩
  case round =>
    clear F0
    obtain ⟨k, v, M, hk, rfl, hM, hF⟩ := hrel
    by_cases hlt : k < N
    · obtain ⟨b, off, rfl, hbw, hc⟩ := Sl.pos HS.out (by have := HL.out; omega)
      have c0 := hc k (by have := HL.out; omega)
      rw [← (B0.out.trans (hF.below.mono B0.out.size)).cell (p := ⟨b, off + k, none⟩) hbw] at c0
      obtain ⟨s, es⟩ : ∃ s, s = (l[k]?.getD ByteArray.empty) := ⟨_, rfl⟩
      rw [← es] at c0
      have P1 := Lib.hid (fifoS_put hF.q (by omega) hF.below.size s)
      have FF := Lib.hid hF
      have hML := Lib.hid hM
      have i1 : (0 : Int) ≤ k := by omega
      have i2 : (k : Int) < N := by omega
      clear es hF hc hM
      go_wp2_with fail
      (with_reducible refine P1.out.mono ?_)
      rintro e w3 ⟨rfl, hq⟩
      obtain ⟨⟨v3, f3⟩, _⟩ := FF.out.of hq
      have F3 := Lib.hid f3
      have hML3 : Hid ((M ++ [s]).length = k + 1) := by show _ = _; rw [List.length_append, hML.out]; rfl
      obtain ⟨M3, eM3⟩ : ∃ M3, M3 = M ++ [s] := ⟨_, rfl⟩
      rw [← eM3] at F3 hML3
      clear hq f3 P1 c0 FF eM3
      by_cases hh : k = hN3
      · subst hh
        have P2 : Hid (Calls Try.prog 51 #[.pointer (some ⟨Q, 0, none⟩), .string ({ data := #[] } : ByteArray)] w3 fun e w' => e = .returned (.bool true) ∧ QOf w3 W0.heap.size 1 Q 0 #[v3] 94 v3 (M3 ++ [({ data := #[] } : ByteArray)]).length (strVals (M3 ++ [({ data := #[] } : ByteArray)])) w') := Lib.hid (fifoS_put F3.out.q (by rw [hML3.out]; omega) F3.out.below.size ({ data := #[] } : ByteArray))
        go_wp2_with fail
        (with_reducible refine P2.out.mono ?_)
        rintro e w4 ⟨rfl, hq⟩
        obtain ⟨⟨v4, f4⟩, _⟩ := F3.out.of hq
        have F4 := Lib.hid f4
        have P3 := Lib.hid (fifoS_drop f4.q (by rw [List.length_append, hML3.out]; simp; omega) f4.below.size ({ data := #[] } : ByteArray))
        have hdl : (Fi.drop (M3 ++ [({ data := #[] } : ByteArray)]) ({ data := #[] } : ByteArray)).length = k + 1 := by
          have := Fi.drop_len (L := M3 ++ [({ data := #[] } : ByteArray)]) (x := ({ data := #[] } : ByteArray)) (by simp)
          rw [List.length_append, hML3.out] at this
          simpa using this
        have HDL := Lib.hid hdl
        clear hq f4 P2 F3 hdl
        go_wp2_with fail
        (with_reducible refine P3.out.mono ?_)
        rintro e w5 ⟨rfl, hq⟩
        obtain ⟨⟨v5, f5⟩, _⟩ := F4.out.of hq
        have F5 := Lib.hid f5
        clear hq f5 P3 F4
        go_wp2
        go_roundw
        case rel => exact ⟨k + 1, v5, _, by omega, by go_num, HDL.out, F5.out⟩
        case measure => simp [intOf]; omega
      · have hne : ((k : Int) == (hN3 : Int)) = false := beq_eq_false_iff_ne.2 (by omega)
        go_wp2
        go_roundw
        case rel => exact ⟨k + 1, v3, M3, by omega, by go_num, hML3.out, F3.out⟩
        case measure => simp [intOf]; omega
    · obtain rfl : k = N := by omega
      have FF := Lib.hid hF
      have P1 := Lib.hid (fifoS_len hF.q)
      have hML := Lib.hid hM
      rw [hM] at P1
      have P2 := Lib.hid (fun (W : World) (hb : Below wr.heap.size wr W) => fifoS_allfn (hF.call hb).q (by omega))
      clear hF hM
      go_wp2_with (first | ((with_reducible refine P1.out.mono ?_); rintro e w3 ⟨rfl, rfl⟩) | fail)
      · have P3 := Lib.hid (P2.out _ (below1 wr (.cells #[.int .i64 0] 3)))
        have CN0 : Hid ((wr.alloc (.cells #[.int .i64 0] 3)).heap[wr.heap.size]? = some (.cells #[.int .i64 0] 3 (0, 0))) := heap_alloc_at _ _ _ rfl
        have hq1 := FF.out.call (below1 wr (.cells #[.int .i64 0] 3))
        have hlq := FF.out.q.lt
        have hlo := FF.out.q.owns.lt
        have hlb := FF.out.below
        clear P2 P1
        (with_reducible refine P3.out.mono ?_)
        rintro e w4 ⟨Bn, u, rfl, hBn, hkb, hO, hb2⟩
        have CN4 := (hb2.block _ (lt_of_heap CN0.out)).trans CN0.out
        have hq4 := hq1.call hb2
        have hK0 := lt_of_heap K0.out
        have HQ4 := Lib.hid hq4.q
        have CM4 := Lib.hid ((hq4.below.block _ hK0).trans K0.out)
        have BW4 := Lib.hid (B0.out.trans (hq4.below.mono B0.out.size))
        have hNb4 := lt_of_heap CN4
        have hNbw : wr.heap.size < w4.heap.size := hNb4
        obtain ⟨Nb, hNb⟩ : ∃ Nb, Nb = wr.heap.size := ⟨_, rfl⟩
        have NQ : Hid (¬ Q = Nb) := by show ¬ _; omega
        have NO : Hid (∀ z, v.ownBlock = some z → ¬ z = Nb) := fun z hz => by have := (hlo z hz).2; omega
        have NM : Hid (¬ w.heap.size = Nb) := by have := hlb.size; show ¬ _; omega
        have NBL : Hid (w.heap.size ≤ Nb) := by have := hlb.size; show _ ≤ _; omega
        have hBnw : Bn < w4.heap.size := lt_of_heap hkb
        have hcB : w4.cell? ⟨Bn, 0, none⟩ = some u := by rw [cell_of_row _ _ _ _ _ _ hkb]; rfl
        simp only [World.size_alloc] at hBn
        obtain ⟨pp, cap, rfl, _, _, _, _⟩ := hO.sl
        obtain ⟨b, hbw, hbn, hp⟩ : ∃ b, b < w4.heap.size ∧ Nb < b ∧ (M.length = 0 ∨ ∃ off, pp = some ⟨b, off, none⟩ ∧ ∀ j, j < M.length → w4.cell? ⟨b, off + j, none⟩ = some (.string (M[j]?.getD ByteArray.empty))) := by
          rcases hO.2 with ⟨_, h0⟩ | ⟨g, cap', h0, h2, h3, _, h5, _⟩
          · exact ⟨Bn, hBnw, by omega, .inl h0⟩
          · refine ⟨g, h3, by simp at h2; omega, .inr ⟨0, by simp at h0; exact h0.1, fun j hj => ?_⟩⟩
            rw [Nat.zero_add]
            refine h5 j _ ?_
            simp [strVals, hj]
        rw [← hNb] at CN4 hNbw
        simp only [← hNb]
        clear hO hkb hb2 hq1 hq4 P3 CN0 FF hlq hlo hlb hNb
        go_wp2
        refine (wpIn_wide (n := 3)).1 ?_
        refine wpIn_rangeFunc_ownG hro (by omega) (gf := 112) (lb := #[.pointer (some ⟨Bn, 0, none⟩)]) rfl trivial (enters_of Try.func112 (by kernel_rfl) rfl)
          (fifoS_all_stops Fence.wide (3 - 1) trivial hro (by omega) Bn b pp cap M (by have := hML.out; omega) w4 hBnw hbw hcB hp) KeepsAt.trans (fun W l o o' hl _ _ _ => KeepsAt.put hbw hl) (Below.refl _ _) (fun _ => rfl)
          (fun pre W => Turned (fun z => z = Nb) w4 W ∧ W.heap[Nb]? = some (.cells #[.int .i64 (pre.length : Nat)] 3 (0, 0)))
          (fun cd pre W => cd = Code.exit 2 ∧ Turned (fun z => z = Nb) w4 W ∧ W.heap[Nb]? = some (.cells #[.int .i64 (pre.length : Nat)] 3 (0, 0)) ∧ (pre.length : Int) = most)
          (fun s W W' row hs hg hr => ⟨hs.1.grown hg (fun z hz hlt => absurd (hr z hz).1 (by omega)), (hg.block Nb (lt_of_heap hs.2) (fun e => by have := (hr Nb e.symm).1; omega)).trans hs.2⟩)
          (fun cd s W W' row hs hg hr => ⟨hs.1, hs.2.1.grown hg (fun z hz hlt => absurd (hr z hz).1 (by omega)), (hg.block Nb (lt_of_heap hs.2.2.1) (fun e => by have := (hr Nb e.symm).1; omega)).trans hs.2.2.1, hs.2.2.2⟩)
          ⟨Turned.refl, CN4⟩ ?a1 ?assign ?body ?done ?stop
        case assign =>
          intro l x W K hK
          gi_wp2
          exact hK
        case body =>
          rintro lp pre x W ⟨ht, hc⟩ hlt
          have c8 : W.cell? ⟨Nb, 0, none⟩ = some (.int .i64 (pre.length : Nat)) := by rw [cell_of_row _ _ _ _ _ _ hc]; rfl
          have f8 : W.frozen? ⟨Nb, 0, none⟩ = false := frozen_of_row _ _ _ _ _ hc
          have c3 : W.cell? ⟨w.heap.size, 0, none⟩ = some (.int .i64 most) := by rw [cell_of_row _ _ _ _ _ _ ((ht.block _ (lt_of_heap CM4.out) NM.out).trans CM4.out)]; rfl
          have c3' : (W.setCell ⟨Nb, 0, none⟩ (.int .i64 ((pre.length : Int) + 1))).cell? ⟨w.heap.size, 0, none⟩ = some (.int .i64 most) := by rw [World.cell?_setCell_other _ _ _ _ (by intro e; injection e with e1 e2; exact NM.out e1.symm)]; exact c3
          have hlen : (pre ++ [x]).length = pre.length + 1 := by simp
          have HT := Lib.hid ht
          have HC := Lib.hid hc
          have k1 : Hid (KeepsFrom w4.heap.size W (W.setCell ⟨Nb, 0, none⟩ (.int .i64 ((pre.length : Int) + 1)))) := KeepsFrom.of_grownBy (grownBy_setCell' W Nb _) (fun j e => by cases e; exact hNbw)
          have k2 : Hid (KeepsAt b W (W.setCell ⟨Nb, 0, none⟩ (.int .i64 ((pre.length : Int) + 1)))) := heap_setCell_other _ _ _ _ (by show b ≠ Nb; omega)
          have k3 : Hid (Turned (fun z => z = Nb) w4 (W.setCell ⟨Nb, 0, none⟩ (.int .i64 ((pre.length : Int) + 1)))) := ht.setCell _ (fun _ => rfl)
          have k4 : Hid ((W.setCell ⟨Nb, 0, none⟩ (.int .i64 ((pre.length : Int) + 1))).heap[Nb]? = some (.cells #[.int .i64 ((pre ++ [x]).length : Nat)] 3 (0, 0))) := by show _ = _; rw [heap_setCell_same _ _ _ _ _ _ hc, hlen]; rfl
          have hpl : pre.length ≤ 1000 := by have := hML.out; omega
          clear ht hc
          by_cases hm : (pre.length : Int) + 1 = most
          · have hmb : ((pre.length : Int) + 1 == most) = true := beq_iff_eq.2 hm
            have HM2 : Hid (((pre ++ [x]).length : Int) = most) := by show _ = _; rw [hlen, ← hm]; rfl
            clear hm hlen
            gi_wp2
            exact ⟨k1.out, rfl, k3.out, k4.out, HM2.out⟩
          · have hmb : ((pre.length : Int) + 1 == most) = false := beq_eq_false_iff_ne.2 hm
            clear hm hlen
            gi_wp2
            exact ⟨k1.out, k2.out, k3.out, k4.out⟩
        case done =>
          rintro D ys W hD rfl ⟨ht, hc⟩ hK
          have G1 := Lib.hid fifoS_get_nil
          have G2 := Lib.hid fifoS_first_nil
          have QW := Lib.hid (HQ4.out.turned ht NQ.out NO.out)
          have CN := Lib.hid hc
          have CM := Lib.hid ((ht.block _ (lt_of_heap CM4.out) NM.out).trans CM4.out)
          have CD := Lib.hid hK
          have BW := Lib.hid (BW4.out.trans (ht.below (B := w.heap.size) (fun z e => by rw [show z = Nb from e]; exact NBL.out) BW4.out.size))
          have DL : Hid (w.heap.size ≤ D) := Nat.le_trans BW4.out.size hD
          obtain ⟨cnt, hcnt⟩ : ∃ cnt, cnt = ys.length := ⟨_, rfl⟩
          rw [← hcnt] at CN
          have hck : cnt = k := by rw [hcnt]; exact hML.out
          clear ht hc hK hcnt
          subst hck
          go_wp2_with (first | ((with_reducible refine (G1.out _).mono ?_); rintro e w8 ⟨rfl, rfl⟩) | ((with_reducible refine (G2.out _).mono ?_); rintro e w8 ⟨rfl, rfl⟩) | fail)
          have hst := stab_and (stab_and (stab_q (B := W0.heap.size) (sz := 1) (b := Q) (o := 0) (cs := #[v]) (T := 94) (v := v) (n := ys.length) (xs := strVals ys)) (stab_and (stab_heap Nb (.cells #[.int .i64 (cnt : Nat)] 3 (0, 0))) (stab_heap w.heap.size (.cells #[.int .i64 most] 3 (0, 0))))) (stab_and (stab_heap D (.deferred (some []))) (stab_below (B := w.heap.size) (w0 := w) (Nat.le_refl _)))
          refine wp_region_E mixed [] hst ⟨⟨QW.out.below (below_drew (Below.refl _ _)), CN.out, CM.out⟩, CD.out, below_drew BW.out⟩ ?_
          refine wpAnyE_take 0 (v := .int .i64 (cnt : Nat)) rfl (by kernel_rfl) (by kernel_rfl) (by kernel_rfl) (fun _ _ _ h => h) hst (EffB.run rfl rfl (fun wd hS => ?_)) (.inl (by kernel_rfl)) ?_
          · (have c2 : wd.cell? ⟨Nb, 0, none⟩ = some (.int .i64 (cnt : Nat)) := by rw [cell_of_row _ _ _ _ _ _ hS.1.2.1]; rfl); go_wp2; exact ⟨rfl, Below.refl _ _⟩
          simp only [act_norm]
          refine wpAnyE_take 1 (v := .int .i64 (cnt : Nat)) rfl (by kernel_rfl) (by kernel_rfl) (by kernel_rfl) (fun _ _ _ h => h) hst (EffB.run rfl rfl (fun wd hS => ?_)) (.inl (by kernel_rfl)) ?_
          · (go_wp2_with fail; (with_reducible refine (fifoS_len hS.1.1).mono ?_); rintro e w'' ⟨rfl, rfl⟩; exact ⟨by rw [hML.out]; rfl, Below.refl _ _⟩)
          simp only [act_norm]
          refine wpAnyE_take 2 (v := .bool true) rfl (by kernel_rfl) (by kernel_rfl) (by kernel_rfl) (fun _ _ _ h => h) hst (EffB.run rfl rfl (fun wd hS => ?_)) (.inr (EffB.run rfl rfl (fun wd hS => ?_))) ?_
          · (go_wp2; exact ⟨rfl, Below.refl _ _⟩)
          · (go_wp2; exact ⟨rfl, Below.refl _ _⟩)
          simp only [act_norm]
          refine wpAnyE_take 3 rfl (by kernel_rfl) (by kernel_rfl) (by kernel_rfl) (fun _ _ _ h => h) hst (EffB.pure rfl (fun _ => rfl)) (.inr (EffB.pure rfl (fun _ => rfl))) ?_
          simp only [act_norm]
          refine wpAnyE_take 4 rfl (by kernel_rfl) (by kernel_rfl) (by kernel_rfl) (fun _ _ _ h => h) hst (EffB.skip rfl) (.inr (EffB.skip rfl)) ?_
          simp only [act_norm]
          refine wpAnyE_take 5 rfl (by kernel_rfl) (by kernel_rfl) (by kernel_rfl) (fun _ _ _ h => h) hst (EffB.skip rfl) (.inr (EffB.skip rfl)) ?_
          simp only [act_norm]
          refine wpAnyE_take 6 rfl (by kernel_rfl) (by kernel_rfl) (by kernel_rfl) (fun _ _ _ h => h) hst (EffB.skip rfl) (.inr (EffB.skip rfl)) ?_
          simp only [act_norm]
          refine wpAnyE_take 7 (v := .bool true) rfl (by kernel_rfl) (by kernel_rfl) (by kernel_rfl) (fun _ _ _ h => h) hst (EffB.run rfl rfl (fun wd hS => ?_)) (.inr (EffB.run rfl rfl (fun wd hS => ?_))) ?_
          · (go_wp2; exact ⟨rfl, Below.refl _ _⟩)
          · (go_wp2; exact ⟨rfl, Below.refl _ _⟩)
          simp only [act_norm]
          refine wpAnyE_take 8 rfl (by kernel_rfl) (by kernel_rfl) (by kernel_rfl) (fun _ _ _ h => h) hst (EffB.pure rfl (fun _ => rfl)) (.inr (EffB.pure rfl (fun _ => rfl))) ?_
          simp only [act_norm]
          refine wpAnyE_take 9 rfl (by kernel_rfl) (by kernel_rfl) (by kernel_rfl) (fun _ _ _ h => h) hst (EffB.pure rfl (fun _ => rfl)) (.inr (EffB.pure rfl (fun _ => rfl))) ?_
          simp only [act_norm]
          refine wpAnyE_take 10 (v := .bool true) rfl (by kernel_rfl) (by kernel_rfl) (by kernel_rfl) (fun _ _ _ h => h) hst (EffB.run rfl rfl (fun wd hS => ?_)) (.inr (EffB.run rfl rfl (fun wd hS => ?_))) ?_
          · (go_wp2; exact ⟨rfl, Below.refl _ _⟩)
          · (go_wp2; exact ⟨rfl, Below.refl _ _⟩)
          simp only [act_norm]
          refine wpAnyE_take 11 (v := .bool true) rfl (by kernel_rfl) (by kernel_rfl) (by kernel_rfl) (fun _ _ _ h => h) hst (EffB.run rfl rfl (fun wd hS => ?_)) (.inr (EffB.run rfl rfl (fun wd hS => ?_))) ?_
          · (go_wp2; exact ⟨rfl, Below.refl _ _⟩)
          · (go_wp2; exact ⟨rfl, Below.refl _ _⟩)
          simp only [act_norm]
          refine wpAnyE_take 12 rfl (by kernel_rfl) (by kernel_rfl) (by kernel_rfl) (fun _ _ _ h => h) hst (EffB.pure rfl (fun _ => rfl)) (.inr (EffB.pure rfl (fun _ => rfl))) ?_
          simp only [act_norm]
          refine wpAnyE_take 13 rfl (by kernel_rfl) (by kernel_rfl) (by kernel_rfl) (fun _ _ _ h => h) hst (EffB.pure rfl (fun _ => rfl)) (.inr (EffB.pure rfl (fun _ => rfl))) ?_
          simp only [act_norm]
          refine wpAnyE_take 14 (v := .bool true) rfl (by kernel_rfl) (by kernel_rfl) (by kernel_rfl) (fun _ _ _ h => h) hst (EffB.run rfl rfl (fun wd hS => ?_)) (.inr (EffB.run rfl rfl (fun wd hS => ?_))) ?_
          · (go_wp2; exact ⟨rfl, Below.refl _ _⟩)
          · (go_wp2; exact ⟨rfl, Below.refl _ _⟩)
          simp only [act_norm]
          refine wpAnyE_take 15 (v := .bool true) rfl (by kernel_rfl) (by kernel_rfl) (by kernel_rfl) (fun _ _ _ h => h) hst (EffB.run rfl rfl (fun wd hS => ?_)) (.inr (EffB.run rfl rfl (fun wd hS => ?_))) ?_
          · (go_wp2; exact ⟨rfl, Below.refl _ _⟩)
          · (go_wp2; exact ⟨rfl, Below.refl _ _⟩)
          simp only [act_norm]
          refine wpAnyE_take 16 rfl (by kernel_rfl) (by kernel_rfl) (by kernel_rfl) (fun _ _ _ h => h) hst (EffB.pure rfl (fun _ => rfl)) (.inr (EffB.pure rfl (fun _ => rfl))) ?_
          simp only [act_norm]
          refine wpAnyE_take 17 rfl (by kernel_rfl) (by kernel_rfl) (by kernel_rfl) (fun _ _ _ h => h) hst (EffB.pure rfl (fun _ => rfl)) (.inr (EffB.pure rfl (fun _ => rfl))) ?_
          simp only [act_norm]
          refine wpAnyE_take 18 (v := .int .i64 0) rfl (by kernel_rfl) (by kernel_rfl) (by kernel_rfl) (fun _ _ _ h => h) hst (EffB.run rfl rfl (fun wd hS => ?_)) (.inl (by kernel_rfl)) ?_
          · (go_wp2_with fail; (with_reducible refine (fifoS_len_nil wd).mono ?_); rintro e w'' ⟨rfl, rfl⟩; exact ⟨rfl, Below.refl _ _⟩)
          simp only [act_norm]
          refine wpAnyE_take 19 (v := .bool true) rfl (by kernel_rfl) (by kernel_rfl) (by kernel_rfl) (fun _ _ _ h => h) hst (EffB.run rfl rfl (fun wd hS => ?_)) (.inr (EffB.run rfl rfl (fun wd hS => ?_))) ?_
          · (go_wp2; exact ⟨rfl, Below.refl _ _⟩)
          · (go_wp2; exact ⟨rfl, Below.refl _ _⟩)
          simp only [act_norm]
          refine wpAnyE_take 20 (v := .bool true) rfl (by kernel_rfl) (by kernel_rfl) (by kernel_rfl) (fun _ _ _ h => h) hst (EffB.run rfl rfl (fun wd hS => ?_)) (.inr (EffB.run rfl rfl (fun wd hS => ?_))) ?_
          · (go_wp2; exact ⟨rfl, Below.refl _ _⟩)
          · (go_wp2; exact ⟨rfl, Below.refl _ _⟩)
          simp only [act_norm]
          refine wpAnyE_take 21 rfl (by kernel_rfl) (by kernel_rfl) (by kernel_rfl) (fun _ _ _ h => h) hst (EffB.pure rfl (fun _ => rfl)) (.inr (EffB.pure rfl (fun _ => rfl))) ?_
          simp only [act_norm]
          refine wpAnyE_take 22 rfl (by kernel_rfl) (by kernel_rfl) (by kernel_rfl) (fun _ _ _ h => h) hst (EffB.pure rfl (fun _ => rfl)) (.inr (EffB.pure rfl (fun _ => rfl))) ?_
          simp only [act_norm]
          refine wpAnyE_take 23 (v := .bool false) rfl (by kernel_rfl) (by kernel_rfl) (by kernel_rfl) (fun _ _ _ h => h) hst (EffB.run rfl rfl (fun wd hS => ?_)) (.inl (by kernel_rfl)) ?_
          · (go_wp2_with fail; (with_reducible refine ((fifoS_put_nil { data := #[97] }) wd).mono ?_); rintro e w'' ⟨rfl, rfl⟩; exact ⟨rfl, Below.refl _ _⟩)
          simp only [act_norm]
          refine wpAnyE_take 24 (v := .bool true) rfl (by kernel_rfl) (by kernel_rfl) (by kernel_rfl) (fun _ _ _ h => h) hst (EffB.run rfl rfl (fun wd hS => ?_)) (.inr (EffB.run rfl rfl (fun wd hS => ?_))) ?_
          · (go_wp2; exact ⟨rfl, Below.refl _ _⟩)
          · (go_wp2; exact ⟨rfl, Below.refl _ _⟩)
          simp only [act_norm]
          refine wpAnyE_take 25 (v := .bool true) rfl (by kernel_rfl) (by kernel_rfl) (by kernel_rfl) (fun _ _ _ h => h) hst (EffB.run rfl rfl (fun wd hS => ?_)) (.inr (EffB.run rfl rfl (fun wd hS => ?_))) ?_
          · (go_wp2; exact ⟨rfl, Below.refl _ _⟩)
          · (go_wp2; exact ⟨rfl, Below.refl _ _⟩)
          simp only [act_norm]
          refine wpAnyE_take 26 rfl (by kernel_rfl) (by kernel_rfl) (by kernel_rfl) (fun _ _ _ h => h) hst (EffB.pure rfl (fun _ => rfl)) (.inr (EffB.pure rfl (fun _ => rfl))) ?_
          simp only [act_norm]
          refine wpAnyE_take 27 rfl (by kernel_rfl) (by kernel_rfl) (by kernel_rfl) (fun _ _ _ h => h) hst (EffB.pure rfl (fun _ => rfl)) (.inr (EffB.pure rfl (fun _ => rfl))) ?_
          simp only [act_norm]
          refine wpAnyE_take 28 (v := .bool false) rfl (by kernel_rfl) (by kernel_rfl) (by kernel_rfl) (fun _ _ _ h => h) hst (EffB.run rfl rfl (fun wd hS => ?_)) (.inl (by kernel_rfl)) ?_
          · (go_wp2_with fail; (with_reducible refine ((fifoS_drop_nil { data := #[97] }) wd).mono ?_); rintro e w'' ⟨rfl, hb⟩; exact ⟨rfl, hb⟩)
          simp only [act_norm]
          refine wpAnyE_take 29 (v := .bool true) rfl (by kernel_rfl) (by kernel_rfl) (by kernel_rfl) (fun _ _ _ h => h) hst (EffB.run rfl rfl (fun wd hS => ?_)) (.inr (EffB.run rfl rfl (fun wd hS => ?_))) ?_
          · (go_wp2; exact ⟨rfl, Below.refl _ _⟩)
          · (go_wp2; exact ⟨rfl, Below.refl _ _⟩)
          simp only [act_norm]
          refine wpAnyE_take 30 (v := .bool true) rfl (by kernel_rfl) (by kernel_rfl) (by kernel_rfl) (fun _ _ _ h => h) hst (EffB.run rfl rfl (fun wd hS => ?_)) (.inr (EffB.run rfl rfl (fun wd hS => ?_))) ?_
          · (go_wp2; exact ⟨rfl, Below.refl _ _⟩)
          · (go_wp2; exact ⟨rfl, Below.refl _ _⟩)
          simp only [act_norm]
          refine wpAnyE_take 31 rfl (by kernel_rfl) (by kernel_rfl) (by kernel_rfl) (fun _ _ _ h => h) hst (EffB.pure rfl (fun _ => rfl)) (.inr (EffB.pure rfl (fun _ => rfl))) ?_
          simp only [act_norm]
          refine wpAnyE_take 32 rfl (by kernel_rfl) (by kernel_rfl) (by kernel_rfl) (fun _ _ _ h => h) hst (EffB.pure rfl (fun _ => rfl)) (.inr (EffB.pure rfl (fun _ => rfl))) ?_
          simp only [act_norm]
          refine wpAnyE_take 33 (v := .bool false) rfl (by kernel_rfl) (by kernel_rfl) (by kernel_rfl) (fun _ _ _ h => h) hst (EffB.run rfl rfl (fun wd hS => ?_)) (.inl (by kernel_rfl)) ?_
          · (go_wp2_with fail; (with_reducible refine ((fifoS_has_nil { data := #[97] }) wd).mono ?_); rintro e w'' ⟨rfl, hb⟩; exact ⟨rfl, hb⟩)
          simp only [act_norm]
          refine wpAnyE_take 34 (v := .bool true) rfl (by kernel_rfl) (by kernel_rfl) (by kernel_rfl) (fun _ _ _ h => h) hst (EffB.run rfl rfl (fun wd hS => ?_)) (.inr (EffB.run rfl rfl (fun wd hS => ?_))) ?_
          · (go_wp2; exact ⟨rfl, Below.refl _ _⟩)
          · (go_wp2; exact ⟨rfl, Below.refl _ _⟩)
          simp only [act_norm]
          refine wpAnyE_take 35 (v := .bool true) rfl (by kernel_rfl) (by kernel_rfl) (by kernel_rfl) (fun _ _ _ h => h) hst (EffB.run rfl rfl (fun wd hS => ?_)) (.inr (EffB.run rfl rfl (fun wd hS => ?_))) ?_
          · (go_wp2; exact ⟨rfl, Below.refl _ _⟩)
          · (go_wp2; exact ⟨rfl, Below.refl _ _⟩)
          simp only [act_norm]
          refine wpAnyE_take 36 rfl (by kernel_rfl) (by kernel_rfl) (by kernel_rfl) (fun _ _ _ h => h) hst (EffB.pure rfl (fun _ => rfl)) (.inr (EffB.pure rfl (fun _ => rfl))) ?_
          simp only [act_norm]
          refine wpAnyE_done (by kernel_rfl) (fun wd hS => ?_) _
          have HF := Lib.hid hS
          clear hS hst
          go_wp2
          refine ⟨by simp, .inl ⟨_, _, rfl, run_takeDeferred HF.out.2.1, ?_⟩⟩
          exact ⟨_, results_tmp rfl _ _ _, rfl, HF.out.2.2.trans (belowK_b (w := w) (Nat.le_refl _) wd D _ _ DL.out HF.out.2.1 rfl rfl)⟩
        case stop =>
          rintro D cd pre W hD hpre ⟨rfl, ht, hc, hm⟩ hK
          have G1 := Lib.hid fifoS_get_nil
          have G2 := Lib.hid fifoS_first_nil
          have QW := Lib.hid (HQ4.out.turned ht NQ.out NO.out)
          have CN := Lib.hid hc
          have CM := Lib.hid ((ht.block _ (lt_of_heap CM4.out) NM.out).trans CM4.out)
          have CD := Lib.hid hK
          have BW := Lib.hid (BW4.out.trans (ht.below (B := w.heap.size) (fun z e => by rw [show z = Nb from e]; exact NBL.out) BW4.out.size))
          have DL : Hid (w.heap.size ≤ D) := Nat.le_trans BW4.out.size hD
          obtain ⟨cnt, hcnt⟩ : ∃ cnt, cnt = pre.length := ⟨_, rfl⟩
          rw [← hcnt] at CN hm
          clear ht hc hK hcnt
          refine wpIn_wide.2 ?_
          subst hm
          by_cases hck : cnt = k
          · subst hck
            go_wp2_with (first | ((with_reducible refine (G1.out _).mono ?_); rintro e w8 ⟨rfl, rfl⟩) | ((with_reducible refine (G2.out _).mono ?_); rintro e w8 ⟨rfl, rfl⟩) | fail)
            have hst := stab_and (stab_and (stab_q (B := W0.heap.size) (sz := 1) (b := Q) (o := 0) (cs := #[v]) (T := 94) (v := v) (n := M.length) (xs := strVals M)) (stab_and (stab_heap Nb (.cells #[.int .i64 (cnt : Nat)] 3 (0, 0))) (stab_heap w.heap.size (.cells #[.int .i64 (cnt : Nat)] 3 (0, 0))))) (stab_and (stab_heap D (.deferred (some []))) (stab_below (B := w.heap.size) (w0 := w) (Nat.le_refl _)))
            refine wp_region_E mixed [] hst ⟨⟨QW.out.below (below_drew (Below.refl _ _)), CN.out, CM.out⟩, CD.out, below_drew BW.out⟩ ?_
            refine wpAnyE_take 0 (v := .int .i64 (cnt : Nat)) rfl (by kernel_rfl) (by kernel_rfl) (by kernel_rfl) (fun _ _ _ h => h) hst (EffB.run rfl rfl (fun wd hS => ?_)) (.inl (by kernel_rfl)) ?_
            · (have c2 : wd.cell? ⟨Nb, 0, none⟩ = some (.int .i64 (cnt : Nat)) := by rw [cell_of_row _ _ _ _ _ _ hS.1.2.1]; rfl); go_wp2; exact ⟨rfl, Below.refl _ _⟩
            simp only [act_norm]
            refine wpAnyE_take 1 (v := .int .i64 (cnt : Nat)) rfl (by kernel_rfl) (by kernel_rfl) (by kernel_rfl) (fun _ _ _ h => h) hst (EffB.run rfl rfl (fun wd hS => ?_)) (.inl (by kernel_rfl)) ?_
            · (go_wp2_with fail; (with_reducible refine (fifoS_len hS.1.1).mono ?_); rintro e w'' ⟨rfl, rfl⟩; exact ⟨by rw [hML.out]; rfl, Below.refl _ _⟩)
            simp only [act_norm]
            refine wpAnyE_take 2 (v := .bool true) rfl (by kernel_rfl) (by kernel_rfl) (by kernel_rfl) (fun _ _ _ h => h) hst (EffB.run rfl rfl (fun wd hS => ?_)) (.inr (EffB.run rfl rfl (fun wd hS => ?_))) ?_
            · (go_wp2; exact ⟨rfl, Below.refl _ _⟩)
            · (go_wp2; exact ⟨rfl, Below.refl _ _⟩)
            simp only [act_norm]
            refine wpAnyE_take 3 rfl (by kernel_rfl) (by kernel_rfl) (by kernel_rfl) (fun _ _ _ h => h) hst (EffB.pure rfl (fun _ => rfl)) (.inr (EffB.pure rfl (fun _ => rfl))) ?_
            simp only [act_norm]
            refine wpAnyE_take 4 rfl (by kernel_rfl) (by kernel_rfl) (by kernel_rfl) (fun _ _ _ h => h) hst (EffB.skip rfl) (.inr (EffB.skip rfl)) ?_
            simp only [act_norm]
            refine wpAnyE_take 5 rfl (by kernel_rfl) (by kernel_rfl) (by kernel_rfl) (fun _ _ _ h => h) hst (EffB.skip rfl) (.inr (EffB.skip rfl)) ?_
            simp only [act_norm]
            refine wpAnyE_take 6 rfl (by kernel_rfl) (by kernel_rfl) (by kernel_rfl) (fun _ _ _ h => h) hst (EffB.skip rfl) (.inr (EffB.skip rfl)) ?_
            simp only [act_norm]
            refine wpAnyE_take 7 (v := .bool true) rfl (by kernel_rfl) (by kernel_rfl) (by kernel_rfl) (fun _ _ _ h => h) hst (EffB.run rfl rfl (fun wd hS => ?_)) (.inr (EffB.run rfl rfl (fun wd hS => ?_))) ?_
            · (go_wp2; exact ⟨rfl, Below.refl _ _⟩)
            · (go_wp2; exact ⟨rfl, Below.refl _ _⟩)
            simp only [act_norm]
            refine wpAnyE_take 8 rfl (by kernel_rfl) (by kernel_rfl) (by kernel_rfl) (fun _ _ _ h => h) hst (EffB.pure rfl (fun _ => rfl)) (.inr (EffB.pure rfl (fun _ => rfl))) ?_
            simp only [act_norm]
            refine wpAnyE_take 9 rfl (by kernel_rfl) (by kernel_rfl) (by kernel_rfl) (fun _ _ _ h => h) hst (EffB.pure rfl (fun _ => rfl)) (.inr (EffB.pure rfl (fun _ => rfl))) ?_
            simp only [act_norm]
            refine wpAnyE_take 10 (v := .bool true) rfl (by kernel_rfl) (by kernel_rfl) (by kernel_rfl) (fun _ _ _ h => h) hst (EffB.run rfl rfl (fun wd hS => ?_)) (.inr (EffB.run rfl rfl (fun wd hS => ?_))) ?_
            · (go_wp2; exact ⟨rfl, Below.refl _ _⟩)
            · (go_wp2; exact ⟨rfl, Below.refl _ _⟩)
            simp only [act_norm]
            refine wpAnyE_take 11 (v := .bool true) rfl (by kernel_rfl) (by kernel_rfl) (by kernel_rfl) (fun _ _ _ h => h) hst (EffB.run rfl rfl (fun wd hS => ?_)) (.inr (EffB.run rfl rfl (fun wd hS => ?_))) ?_
            · (go_wp2; exact ⟨rfl, Below.refl _ _⟩)
            · (go_wp2; exact ⟨rfl, Below.refl _ _⟩)
            simp only [act_norm]
            refine wpAnyE_take 12 rfl (by kernel_rfl) (by kernel_rfl) (by kernel_rfl) (fun _ _ _ h => h) hst (EffB.pure rfl (fun _ => rfl)) (.inr (EffB.pure rfl (fun _ => rfl))) ?_
            simp only [act_norm]
            refine wpAnyE_take 13 rfl (by kernel_rfl) (by kernel_rfl) (by kernel_rfl) (fun _ _ _ h => h) hst (EffB.pure rfl (fun _ => rfl)) (.inr (EffB.pure rfl (fun _ => rfl))) ?_
            simp only [act_norm]
            refine wpAnyE_take 14 (v := .bool true) rfl (by kernel_rfl) (by kernel_rfl) (by kernel_rfl) (fun _ _ _ h => h) hst (EffB.run rfl rfl (fun wd hS => ?_)) (.inr (EffB.run rfl rfl (fun wd hS => ?_))) ?_
            · (go_wp2; exact ⟨rfl, Below.refl _ _⟩)
            · (go_wp2; exact ⟨rfl, Below.refl _ _⟩)
            simp only [act_norm]
            refine wpAnyE_take 15 (v := .bool true) rfl (by kernel_rfl) (by kernel_rfl) (by kernel_rfl) (fun _ _ _ h => h) hst (EffB.run rfl rfl (fun wd hS => ?_)) (.inr (EffB.run rfl rfl (fun wd hS => ?_))) ?_
            · (go_wp2; exact ⟨rfl, Below.refl _ _⟩)
            · (go_wp2; exact ⟨rfl, Below.refl _ _⟩)
            simp only [act_norm]
            refine wpAnyE_take 16 rfl (by kernel_rfl) (by kernel_rfl) (by kernel_rfl) (fun _ _ _ h => h) hst (EffB.pure rfl (fun _ => rfl)) (.inr (EffB.pure rfl (fun _ => rfl))) ?_
            simp only [act_norm]
            refine wpAnyE_take 17 rfl (by kernel_rfl) (by kernel_rfl) (by kernel_rfl) (fun _ _ _ h => h) hst (EffB.pure rfl (fun _ => rfl)) (.inr (EffB.pure rfl (fun _ => rfl))) ?_
            simp only [act_norm]
            refine wpAnyE_take 18 (v := .int .i64 0) rfl (by kernel_rfl) (by kernel_rfl) (by kernel_rfl) (fun _ _ _ h => h) hst (EffB.run rfl rfl (fun wd hS => ?_)) (.inl (by kernel_rfl)) ?_
            · (go_wp2_with fail; (with_reducible refine (fifoS_len_nil wd).mono ?_); rintro e w'' ⟨rfl, rfl⟩; exact ⟨rfl, Below.refl _ _⟩)
            simp only [act_norm]
            refine wpAnyE_take 19 (v := .bool true) rfl (by kernel_rfl) (by kernel_rfl) (by kernel_rfl) (fun _ _ _ h => h) hst (EffB.run rfl rfl (fun wd hS => ?_)) (.inr (EffB.run rfl rfl (fun wd hS => ?_))) ?_
            · (go_wp2; exact ⟨rfl, Below.refl _ _⟩)
            · (go_wp2; exact ⟨rfl, Below.refl _ _⟩)
            simp only [act_norm]
            refine wpAnyE_take 20 (v := .bool true) rfl (by kernel_rfl) (by kernel_rfl) (by kernel_rfl) (fun _ _ _ h => h) hst (EffB.run rfl rfl (fun wd hS => ?_)) (.inr (EffB.run rfl rfl (fun wd hS => ?_))) ?_
            · (go_wp2; exact ⟨rfl, Below.refl _ _⟩)
            · (go_wp2; exact ⟨rfl, Below.refl _ _⟩)
            simp only [act_norm]
            refine wpAnyE_take 21 rfl (by kernel_rfl) (by kernel_rfl) (by kernel_rfl) (fun _ _ _ h => h) hst (EffB.pure rfl (fun _ => rfl)) (.inr (EffB.pure rfl (fun _ => rfl))) ?_
            simp only [act_norm]
            refine wpAnyE_take 22 rfl (by kernel_rfl) (by kernel_rfl) (by kernel_rfl) (fun _ _ _ h => h) hst (EffB.pure rfl (fun _ => rfl)) (.inr (EffB.pure rfl (fun _ => rfl))) ?_
            simp only [act_norm]
            refine wpAnyE_take 23 (v := .bool false) rfl (by kernel_rfl) (by kernel_rfl) (by kernel_rfl) (fun _ _ _ h => h) hst (EffB.run rfl rfl (fun wd hS => ?_)) (.inl (by kernel_rfl)) ?_
            · (go_wp2_with fail; (with_reducible refine ((fifoS_put_nil { data := #[97] }) wd).mono ?_); rintro e w'' ⟨rfl, rfl⟩; exact ⟨rfl, Below.refl _ _⟩)
            simp only [act_norm]
            refine wpAnyE_take 24 (v := .bool true) rfl (by kernel_rfl) (by kernel_rfl) (by kernel_rfl) (fun _ _ _ h => h) hst (EffB.run rfl rfl (fun wd hS => ?_)) (.inr (EffB.run rfl rfl (fun wd hS => ?_))) ?_
            · (go_wp2; exact ⟨rfl, Below.refl _ _⟩)
            · (go_wp2; exact ⟨rfl, Below.refl _ _⟩)
            simp only [act_norm]
            refine wpAnyE_take 25 (v := .bool true) rfl (by kernel_rfl) (by kernel_rfl) (by kernel_rfl) (fun _ _ _ h => h) hst (EffB.run rfl rfl (fun wd hS => ?_)) (.inr (EffB.run rfl rfl (fun wd hS => ?_))) ?_
            · (go_wp2; exact ⟨rfl, Below.refl _ _⟩)
            · (go_wp2; exact ⟨rfl, Below.refl _ _⟩)
            simp only [act_norm]
            refine wpAnyE_take 26 rfl (by kernel_rfl) (by kernel_rfl) (by kernel_rfl) (fun _ _ _ h => h) hst (EffB.pure rfl (fun _ => rfl)) (.inr (EffB.pure rfl (fun _ => rfl))) ?_
            simp only [act_norm]
            refine wpAnyE_take 27 rfl (by kernel_rfl) (by kernel_rfl) (by kernel_rfl) (fun _ _ _ h => h) hst (EffB.pure rfl (fun _ => rfl)) (.inr (EffB.pure rfl (fun _ => rfl))) ?_
            simp only [act_norm]
            refine wpAnyE_take 28 (v := .bool false) rfl (by kernel_rfl) (by kernel_rfl) (by kernel_rfl) (fun _ _ _ h => h) hst (EffB.run rfl rfl (fun wd hS => ?_)) (.inl (by kernel_rfl)) ?_
            · (go_wp2_with fail; (with_reducible refine ((fifoS_drop_nil { data := #[97] }) wd).mono ?_); rintro e w'' ⟨rfl, hb⟩; exact ⟨rfl, hb⟩)
            simp only [act_norm]
            refine wpAnyE_take 29 (v := .bool true) rfl (by kernel_rfl) (by kernel_rfl) (by kernel_rfl) (fun _ _ _ h => h) hst (EffB.run rfl rfl (fun wd hS => ?_)) (.inr (EffB.run rfl rfl (fun wd hS => ?_))) ?_
            · (go_wp2; exact ⟨rfl, Below.refl _ _⟩)
            · (go_wp2; exact ⟨rfl, Below.refl _ _⟩)
            simp only [act_norm]
            refine wpAnyE_take 30 (v := .bool true) rfl (by kernel_rfl) (by kernel_rfl) (by kernel_rfl) (fun _ _ _ h => h) hst (EffB.run rfl rfl (fun wd hS => ?_)) (.inr (EffB.run rfl rfl (fun wd hS => ?_))) ?_
            · (go_wp2; exact ⟨rfl, Below.refl _ _⟩)
            · (go_wp2; exact ⟨rfl, Below.refl _ _⟩)
            simp only [act_norm]
            refine wpAnyE_take 31 rfl (by kernel_rfl) (by kernel_rfl) (by kernel_rfl) (fun _ _ _ h => h) hst (EffB.pure rfl (fun _ => rfl)) (.inr (EffB.pure rfl (fun _ => rfl))) ?_
            simp only [act_norm]
            refine wpAnyE_take 32 rfl (by kernel_rfl) (by kernel_rfl) (by kernel_rfl) (fun _ _ _ h => h) hst (EffB.pure rfl (fun _ => rfl)) (.inr (EffB.pure rfl (fun _ => rfl))) ?_
            simp only [act_norm]
            refine wpAnyE_take 33 (v := .bool false) rfl (by kernel_rfl) (by kernel_rfl) (by kernel_rfl) (fun _ _ _ h => h) hst (EffB.run rfl rfl (fun wd hS => ?_)) (.inl (by kernel_rfl)) ?_
            · (go_wp2_with fail; (with_reducible refine ((fifoS_has_nil { data := #[97] }) wd).mono ?_); rintro e w'' ⟨rfl, hb⟩; exact ⟨rfl, hb⟩)
            simp only [act_norm]
            refine wpAnyE_take 34 (v := .bool true) rfl (by kernel_rfl) (by kernel_rfl) (by kernel_rfl) (fun _ _ _ h => h) hst (EffB.run rfl rfl (fun wd hS => ?_)) (.inr (EffB.run rfl rfl (fun wd hS => ?_))) ?_
            · (go_wp2; exact ⟨rfl, Below.refl _ _⟩)
            · (go_wp2; exact ⟨rfl, Below.refl _ _⟩)
            simp only [act_norm]
            refine wpAnyE_take 35 (v := .bool true) rfl (by kernel_rfl) (by kernel_rfl) (by kernel_rfl) (fun _ _ _ h => h) hst (EffB.run rfl rfl (fun wd hS => ?_)) (.inr (EffB.run rfl rfl (fun wd hS => ?_))) ?_
            · (go_wp2; exact ⟨rfl, Below.refl _ _⟩)
            · (go_wp2; exact ⟨rfl, Below.refl _ _⟩)
            simp only [act_norm]
            refine wpAnyE_take 36 rfl (by kernel_rfl) (by kernel_rfl) (by kernel_rfl) (fun _ _ _ h => h) hst (EffB.pure rfl (fun _ => rfl)) (.inr (EffB.pure rfl (fun _ => rfl))) ?_
            simp only [act_norm]
            refine wpAnyE_done (by kernel_rfl) (fun wd hS => ?_) _
            have HF := Lib.hid hS
            clear hS hst
            go_wp2
            refine ⟨by simp, .inl ⟨_, _, rfl, run_takeDeferred HF.out.2.1, ?_⟩⟩
            exact ⟨_, results_tmp rfl _ _ _, rfl, HF.out.2.2.trans (belowK_b (w := w) (Nat.le_refl _) wd D _ _ DL.out HF.out.2.1 rfl rfl)⟩
          · have hcb : ((cnt : Int) == (k : Int)) = false := beq_eq_false_iff_ne.2 (by omega)
            have hcb2 : (cnt == k) = false := beq_eq_false_iff_ne.2 hck
            go_wp2_with (first | ((with_reducible refine (G1.out _).mono ?_); rintro e w8 ⟨rfl, rfl⟩) | ((with_reducible refine (G2.out _).mono ?_); rintro e w8 ⟨rfl, rfl⟩) | fail)
            have hst := stab_and (stab_and (stab_q (B := W0.heap.size) (sz := 1) (b := Q) (o := 0) (cs := #[v]) (T := 94) (v := v) (n := M.length) (xs := strVals M)) (stab_and (stab_heap Nb (.cells #[.int .i64 (cnt : Nat)] 3 (0, 0))) (stab_heap w.heap.size (.cells #[.int .i64 (cnt : Nat)] 3 (0, 0))))) (stab_and (stab_heap D (.deferred (some []))) (stab_below (B := w.heap.size) (w0 := w) (Nat.le_refl _)))
            refine wp_region_E mixed [] hst ⟨⟨QW.out.below (below_drew (Below.refl _ _)), CN.out, CM.out⟩, CD.out, below_drew BW.out⟩ ?_
            refine wpAnyE_take 0 (v := .int .i64 (cnt : Nat)) rfl (by kernel_rfl) (by kernel_rfl) (by kernel_rfl) (fun _ _ _ h => h) hst (EffB.run rfl rfl (fun wd hS => ?_)) (.inl (by kernel_rfl)) ?_
            · (have c2 : wd.cell? ⟨Nb, 0, none⟩ = some (.int .i64 (cnt : Nat)) := by rw [cell_of_row _ _ _ _ _ _ hS.1.2.1]; rfl); go_wp2; exact ⟨rfl, Below.refl _ _⟩
            simp only [act_norm]
            refine wpAnyE_take 1 (v := .int .i64 (k : Nat)) rfl (by kernel_rfl) (by kernel_rfl) (by kernel_rfl) (fun _ _ _ h => h) hst (EffB.run rfl rfl (fun wd hS => ?_)) (.inl (by kernel_rfl)) ?_
            · (go_wp2_with fail; (with_reducible refine (fifoS_len hS.1.1).mono ?_); rintro e w'' ⟨rfl, rfl⟩; exact ⟨by rw [hML.out]; rfl, Below.refl _ _⟩)
            simp only [act_norm]
            refine wpAnyE_take 2 (v := .bool false) rfl (by kernel_rfl) (by kernel_rfl) (by kernel_rfl) (fun _ _ _ h => h) hst (EffB.run rfl rfl (fun wd hS => ?_)) (.inr (EffB.run rfl rfl (fun wd hS => ?_))) ?_
            · (go_wp2; exact ⟨rfl, Below.refl _ _⟩)
            · (go_wp2; exact ⟨rfl, Below.refl _ _⟩)
            simp only [act_norm]
            refine wpAnyE_take 3 rfl (by kernel_rfl) (by kernel_rfl) (by kernel_rfl) (fun _ _ _ h => h) hst (EffB.pure rfl (fun _ => rfl)) (.inr (EffB.pure rfl (fun _ => rfl))) ?_
            simp only [act_norm]
            refine wpAnyE_take 4 (v := .int .i64 (cnt : Nat)) rfl (by kernel_rfl) (by kernel_rfl) (by kernel_rfl) (fun _ _ _ h => h) hst (EffB.run rfl rfl (fun wd hS => ?_)) (.inl (by kernel_rfl)) ?_
            · (have c2 : wd.cell? ⟨Nb, 0, none⟩ = some (.int .i64 (cnt : Nat)) := by rw [cell_of_row _ _ _ _ _ _ hS.1.2.1]; rfl); go_wp2; exact ⟨rfl, Below.refl _ _⟩
            simp only [act_norm]
            refine wpAnyE_take 5 (v := .int .i64 (cnt : Nat)) rfl (by kernel_rfl) (by kernel_rfl) (by kernel_rfl) (fun _ _ _ h => h) hst (EffB.run rfl rfl (fun wd hS => ?_)) (.inl (by kernel_rfl)) ?_
            · (have c2 : wd.cell? ⟨w.heap.size, 0, none⟩ = some (.int .i64 (cnt : Nat)) := by rw [cell_of_row _ _ _ _ _ _ hS.1.2.2]; rfl); go_wp2; exact ⟨rfl, Below.refl _ _⟩
            simp only [act_norm]
            refine wpAnyE_take 6 (v := .bool true) rfl (by kernel_rfl) (by kernel_rfl) (by kernel_rfl) (fun _ _ _ h => h) hst (EffB.run rfl rfl (fun wd hS => ?_)) (.inr (EffB.run rfl rfl (fun wd hS => ?_))) ?_
            · (go_wp2; exact ⟨rfl, Below.refl _ _⟩)
            · (go_wp2; exact ⟨rfl, Below.refl _ _⟩)
            simp only [act_norm]
            refine wpAnyE_take 7 (v := .bool true) rfl (by kernel_rfl) (by kernel_rfl) (by kernel_rfl) (fun _ _ _ h => h) hst (EffB.run rfl rfl (fun wd hS => ?_)) (.inr (EffB.run rfl rfl (fun wd hS => ?_))) ?_
            · (go_wp2; exact ⟨rfl, Below.refl _ _⟩)
            · (go_wp2; exact ⟨rfl, Below.refl _ _⟩)
            simp only [act_norm]
            refine wpAnyE_take 8 rfl (by kernel_rfl) (by kernel_rfl) (by kernel_rfl) (fun _ _ _ h => h) hst (EffB.pure rfl (fun _ => rfl)) (.inr (EffB.pure rfl (fun _ => rfl))) ?_
            simp only [act_norm]
            refine wpAnyE_take 9 rfl (by kernel_rfl) (by kernel_rfl) (by kernel_rfl) (fun _ _ _ h => h) hst (EffB.pure rfl (fun _ => rfl)) (.inr (EffB.pure rfl (fun _ => rfl))) ?_
            simp only [act_norm]
            refine wpAnyE_take 10 (v := .bool true) rfl (by kernel_rfl) (by kernel_rfl) (by kernel_rfl) (fun _ _ _ h => h) hst (EffB.run rfl rfl (fun wd hS => ?_)) (.inr (EffB.run rfl rfl (fun wd hS => ?_))) ?_
            · (go_wp2; exact ⟨rfl, Below.refl _ _⟩)
            · (go_wp2; exact ⟨rfl, Below.refl _ _⟩)
            simp only [act_norm]
            refine wpAnyE_take 11 (v := .bool true) rfl (by kernel_rfl) (by kernel_rfl) (by kernel_rfl) (fun _ _ _ h => h) hst (EffB.run rfl rfl (fun wd hS => ?_)) (.inr (EffB.run rfl rfl (fun wd hS => ?_))) ?_
            · (go_wp2; exact ⟨rfl, Below.refl _ _⟩)
            · (go_wp2; exact ⟨rfl, Below.refl _ _⟩)
            simp only [act_norm]
            refine wpAnyE_take 12 rfl (by kernel_rfl) (by kernel_rfl) (by kernel_rfl) (fun _ _ _ h => h) hst (EffB.pure rfl (fun _ => rfl)) (.inr (EffB.pure rfl (fun _ => rfl))) ?_
            simp only [act_norm]
            refine wpAnyE_take 13 rfl (by kernel_rfl) (by kernel_rfl) (by kernel_rfl) (fun _ _ _ h => h) hst (EffB.pure rfl (fun _ => rfl)) (.inr (EffB.pure rfl (fun _ => rfl))) ?_
            simp only [act_norm]
            refine wpAnyE_take 14 (v := .bool true) rfl (by kernel_rfl) (by kernel_rfl) (by kernel_rfl) (fun _ _ _ h => h) hst (EffB.run rfl rfl (fun wd hS => ?_)) (.inr (EffB.run rfl rfl (fun wd hS => ?_))) ?_
            · (go_wp2; exact ⟨rfl, Below.refl _ _⟩)
            · (go_wp2; exact ⟨rfl, Below.refl _ _⟩)
            simp only [act_norm]
            refine wpAnyE_take 15 (v := .bool true) rfl (by kernel_rfl) (by kernel_rfl) (by kernel_rfl) (fun _ _ _ h => h) hst (EffB.run rfl rfl (fun wd hS => ?_)) (.inr (EffB.run rfl rfl (fun wd hS => ?_))) ?_
            · (go_wp2; exact ⟨rfl, Below.refl _ _⟩)
            · (go_wp2; exact ⟨rfl, Below.refl _ _⟩)
            simp only [act_norm]
            refine wpAnyE_take 16 rfl (by kernel_rfl) (by kernel_rfl) (by kernel_rfl) (fun _ _ _ h => h) hst (EffB.pure rfl (fun _ => rfl)) (.inr (EffB.pure rfl (fun _ => rfl))) ?_
            simp only [act_norm]
            refine wpAnyE_take 17 rfl (by kernel_rfl) (by kernel_rfl) (by kernel_rfl) (fun _ _ _ h => h) hst (EffB.pure rfl (fun _ => rfl)) (.inr (EffB.pure rfl (fun _ => rfl))) ?_
            simp only [act_norm]
            refine wpAnyE_take 18 (v := .int .i64 0) rfl (by kernel_rfl) (by kernel_rfl) (by kernel_rfl) (fun _ _ _ h => h) hst (EffB.run rfl rfl (fun wd hS => ?_)) (.inl (by kernel_rfl)) ?_
            · (go_wp2_with fail; (with_reducible refine (fifoS_len_nil wd).mono ?_); rintro e w'' ⟨rfl, rfl⟩; exact ⟨rfl, Below.refl _ _⟩)
            simp only [act_norm]
            refine wpAnyE_take 19 (v := .bool true) rfl (by kernel_rfl) (by kernel_rfl) (by kernel_rfl) (fun _ _ _ h => h) hst (EffB.run rfl rfl (fun wd hS => ?_)) (.inr (EffB.run rfl rfl (fun wd hS => ?_))) ?_
            · (go_wp2; exact ⟨rfl, Below.refl _ _⟩)
            · (go_wp2; exact ⟨rfl, Below.refl _ _⟩)
            simp only [act_norm]
            refine wpAnyE_take 20 (v := .bool true) rfl (by kernel_rfl) (by kernel_rfl) (by kernel_rfl) (fun _ _ _ h => h) hst (EffB.run rfl rfl (fun wd hS => ?_)) (.inr (EffB.run rfl rfl (fun wd hS => ?_))) ?_
            · (go_wp2; exact ⟨rfl, Below.refl _ _⟩)
            · (go_wp2; exact ⟨rfl, Below.refl _ _⟩)
            simp only [act_norm]
            refine wpAnyE_take 21 rfl (by kernel_rfl) (by kernel_rfl) (by kernel_rfl) (fun _ _ _ h => h) hst (EffB.pure rfl (fun _ => rfl)) (.inr (EffB.pure rfl (fun _ => rfl))) ?_
            simp only [act_norm]
            refine wpAnyE_take 22 rfl (by kernel_rfl) (by kernel_rfl) (by kernel_rfl) (fun _ _ _ h => h) hst (EffB.pure rfl (fun _ => rfl)) (.inr (EffB.pure rfl (fun _ => rfl))) ?_
            simp only [act_norm]
            refine wpAnyE_take 23 (v := .bool false) rfl (by kernel_rfl) (by kernel_rfl) (by kernel_rfl) (fun _ _ _ h => h) hst (EffB.run rfl rfl (fun wd hS => ?_)) (.inl (by kernel_rfl)) ?_
            · (go_wp2_with fail; (with_reducible refine ((fifoS_put_nil { data := #[97] }) wd).mono ?_); rintro e w'' ⟨rfl, rfl⟩; exact ⟨rfl, Below.refl _ _⟩)
            simp only [act_norm]
            refine wpAnyE_take 24 (v := .bool true) rfl (by kernel_rfl) (by kernel_rfl) (by kernel_rfl) (fun _ _ _ h => h) hst (EffB.run rfl rfl (fun wd hS => ?_)) (.inr (EffB.run rfl rfl (fun wd hS => ?_))) ?_
            · (go_wp2; exact ⟨rfl, Below.refl _ _⟩)
            · (go_wp2; exact ⟨rfl, Below.refl _ _⟩)
            simp only [act_norm]
            refine wpAnyE_take 25 (v := .bool true) rfl (by kernel_rfl) (by kernel_rfl) (by kernel_rfl) (fun _ _ _ h => h) hst (EffB.run rfl rfl (fun wd hS => ?_)) (.inr (EffB.run rfl rfl (fun wd hS => ?_))) ?_
            · (go_wp2; exact ⟨rfl, Below.refl _ _⟩)
            · (go_wp2; exact ⟨rfl, Below.refl _ _⟩)
            simp only [act_norm]
            refine wpAnyE_take 26 rfl (by kernel_rfl) (by kernel_rfl) (by kernel_rfl) (fun _ _ _ h => h) hst (EffB.pure rfl (fun _ => rfl)) (.inr (EffB.pure rfl (fun _ => rfl))) ?_
            simp only [act_norm]
            refine wpAnyE_take 27 rfl (by kernel_rfl) (by kernel_rfl) (by kernel_rfl) (fun _ _ _ h => h) hst (EffB.pure rfl (fun _ => rfl)) (.inr (EffB.pure rfl (fun _ => rfl))) ?_
            simp only [act_norm]
            refine wpAnyE_take 28 (v := .bool false) rfl (by kernel_rfl) (by kernel_rfl) (by kernel_rfl) (fun _ _ _ h => h) hst (EffB.run rfl rfl (fun wd hS => ?_)) (.inl (by kernel_rfl)) ?_
            · (go_wp2_with fail; (with_reducible refine ((fifoS_drop_nil { data := #[97] }) wd).mono ?_); rintro e w'' ⟨rfl, hb⟩; exact ⟨rfl, hb⟩)
            simp only [act_norm]
            refine wpAnyE_take 29 (v := .bool true) rfl (by kernel_rfl) (by kernel_rfl) (by kernel_rfl) (fun _ _ _ h => h) hst (EffB.run rfl rfl (fun wd hS => ?_)) (.inr (EffB.run rfl rfl (fun wd hS => ?_))) ?_
            · (go_wp2; exact ⟨rfl, Below.refl _ _⟩)
            · (go_wp2; exact ⟨rfl, Below.refl _ _⟩)
            simp only [act_norm]
            refine wpAnyE_take 30 (v := .bool true) rfl (by kernel_rfl) (by kernel_rfl) (by kernel_rfl) (fun _ _ _ h => h) hst (EffB.run rfl rfl (fun wd hS => ?_)) (.inr (EffB.run rfl rfl (fun wd hS => ?_))) ?_
            · (go_wp2; exact ⟨rfl, Below.refl _ _⟩)
            · (go_wp2; exact ⟨rfl, Below.refl _ _⟩)
            simp only [act_norm]
            refine wpAnyE_take 31 rfl (by kernel_rfl) (by kernel_rfl) (by kernel_rfl) (fun _ _ _ h => h) hst (EffB.pure rfl (fun _ => rfl)) (.inr (EffB.pure rfl (fun _ => rfl))) ?_
            simp only [act_norm]
            refine wpAnyE_take 32 rfl (by kernel_rfl) (by kernel_rfl) (by kernel_rfl) (fun _ _ _ h => h) hst (EffB.pure rfl (fun _ => rfl)) (.inr (EffB.pure rfl (fun _ => rfl))) ?_
            simp only [act_norm]
            refine wpAnyE_take 33 (v := .bool false) rfl (by kernel_rfl) (by kernel_rfl) (by kernel_rfl) (fun _ _ _ h => h) hst (EffB.run rfl rfl (fun wd hS => ?_)) (.inl (by kernel_rfl)) ?_
            · (go_wp2_with fail; (with_reducible refine ((fifoS_has_nil { data := #[97] }) wd).mono ?_); rintro e w'' ⟨rfl, hb⟩; exact ⟨rfl, hb⟩)
            simp only [act_norm]
            refine wpAnyE_take 34 (v := .bool true) rfl (by kernel_rfl) (by kernel_rfl) (by kernel_rfl) (fun _ _ _ h => h) hst (EffB.run rfl rfl (fun wd hS => ?_)) (.inr (EffB.run rfl rfl (fun wd hS => ?_))) ?_
            · (go_wp2; exact ⟨rfl, Below.refl _ _⟩)
            · (go_wp2; exact ⟨rfl, Below.refl _ _⟩)
            simp only [act_norm]
            refine wpAnyE_take 35 (v := .bool true) rfl (by kernel_rfl) (by kernel_rfl) (by kernel_rfl) (fun _ _ _ h => h) hst (EffB.run rfl rfl (fun wd hS => ?_)) (.inr (EffB.run rfl rfl (fun wd hS => ?_))) ?_
            · (go_wp2; exact ⟨rfl, Below.refl _ _⟩)
            · (go_wp2; exact ⟨rfl, Below.refl _ _⟩)
            simp only [act_norm]
            refine wpAnyE_take 36 rfl (by kernel_rfl) (by kernel_rfl) (by kernel_rfl) (fun _ _ _ h => h) hst (EffB.pure rfl (fun _ => rfl)) (.inr (EffB.pure rfl (fun _ => rfl))) ?_
            simp only [act_norm]
            refine wpAnyE_done (by kernel_rfl) (fun wd hS => ?_) _
            have HF := Lib.hid hS
            clear hS hst
            go_wp2
            refine ⟨by simp, .inl ⟨_, _, rfl, run_takeDeferred HF.out.2.1, ?_⟩⟩
            exact ⟨_, results_tmp rfl _ _ _, rfl, HF.out.2.2.trans (belowK_b (w := w) (Nat.le_refl _) wd D _ _ DL.out HF.out.2.1 rfl rfl)⟩
      · have P3 := Lib.hid (P2.out _ (below1 wr (.cells #[.int .i64 0] 3)))
        have CN0 : Hid ((wr.alloc (.cells #[.int .i64 0] 3)).heap[wr.heap.size]? = some (.cells #[.int .i64 0] 3 (0, 0))) := heap_alloc_at _ _ _ rfl
        have hq1 := FF.out.call (below1 wr (.cells #[.int .i64 0] 3))
        have hlq := FF.out.q.lt
        have hlo := FF.out.q.owns.lt
        have hlb := FF.out.below
        clear P2 P1
        (with_reducible refine P3.out.mono ?_)
        rintro e w4 ⟨Bn, u, rfl, hBn, hkb, hO, hb2⟩
        have CN4 := (hb2.block _ (lt_of_heap CN0.out)).trans CN0.out
        have hq4 := hq1.call hb2
        have hK0 := lt_of_heap K0.out
        have HQ4 := Lib.hid hq4.q
        have CM4 := Lib.hid ((hq4.below.block _ hK0).trans K0.out)
        have BW4 := Lib.hid (B0.out.trans (hq4.below.mono B0.out.size))
        have hNb4 := lt_of_heap CN4
        have hNbw : wr.heap.size < w4.heap.size := hNb4
        obtain ⟨Nb, hNb⟩ : ∃ Nb, Nb = wr.heap.size := ⟨_, rfl⟩
        have NQ : Hid (¬ Q = Nb) := by show ¬ _; omega
        have NO : Hid (∀ z, v.ownBlock = some z → ¬ z = Nb) := fun z hz => by have := (hlo z hz).2; omega
        have NM : Hid (¬ w.heap.size = Nb) := by have := hlb.size; show ¬ _; omega
        have NBL : Hid (w.heap.size ≤ Nb) := by have := hlb.size; show _ ≤ _; omega
        have hBnw : Bn < w4.heap.size := lt_of_heap hkb
        have hcB : w4.cell? ⟨Bn, 0, none⟩ = some u := by rw [cell_of_row _ _ _ _ _ _ hkb]; rfl
        simp only [World.size_alloc] at hBn
        obtain ⟨pp, cap, rfl, _, _, _, _⟩ := hO.sl
        obtain ⟨b, hbw, hbn, hp⟩ : ∃ b, b < w4.heap.size ∧ Nb < b ∧ (M.length = 0 ∨ ∃ off, pp = some ⟨b, off, none⟩ ∧ ∀ j, j < M.length → w4.cell? ⟨b, off + j, none⟩ = some (.string (M[j]?.getD ByteArray.empty))) := by
          rcases hO.2 with ⟨_, h0⟩ | ⟨g, cap', h0, h2, h3, _, h5, _⟩
          · exact ⟨Bn, hBnw, by omega, .inl h0⟩
          · refine ⟨g, h3, by simp at h2; omega, .inr ⟨0, by simp at h0; exact h0.1, fun j hj => ?_⟩⟩
            rw [Nat.zero_add]
            refine h5 j _ ?_
            simp [strVals, hj]
        rw [← hNb] at CN4 hNbw
        simp only [← hNb]
        clear hO hkb hb2 hq1 hq4 P3 CN0 FF hlq hlo hlb hNb
        go_wp2
        refine (wpIn_wide (n := 3)).1 ?_
        refine wpIn_rangeFunc_ownG hro (by omega) (gf := 112) (lb := #[.pointer (some ⟨Bn, 0, none⟩)]) rfl trivial (enters_of Try.func112 (by kernel_rfl) rfl)
          (fifoS_all_stops Fence.wide (3 - 1) trivial hro (by omega) Bn b pp cap M (by have := hML.out; omega) w4 hBnw hbw hcB hp) KeepsAt.trans (fun W l o o' hl _ _ _ => KeepsAt.put hbw hl) (Below.refl _ _) (fun _ => rfl)
          (fun pre W => Turned (fun z => z = Nb) w4 W ∧ W.heap[Nb]? = some (.cells #[.int .i64 (pre.length : Nat)] 3 (0, 0)))
          (fun cd pre W => cd = Code.exit 2 ∧ Turned (fun z => z = Nb) w4 W ∧ W.heap[Nb]? = some (.cells #[.int .i64 (pre.length : Nat)] 3 (0, 0)) ∧ (pre.length : Int) = most)
          (fun s W W' row hs hg hr => ⟨hs.1.grown hg (fun z hz hlt => absurd (hr z hz).1 (by omega)), (hg.block Nb (lt_of_heap hs.2) (fun e => by have := (hr Nb e.symm).1; omega)).trans hs.2⟩)
          (fun cd s W W' row hs hg hr => ⟨hs.1, hs.2.1.grown hg (fun z hz hlt => absurd (hr z hz).1 (by omega)), (hg.block Nb (lt_of_heap hs.2.2.1) (fun e => by have := (hr Nb e.symm).1; omega)).trans hs.2.2.1, hs.2.2.2⟩)
          ⟨Turned.refl, CN4⟩ ?a12 ?assign2 ?body2 ?done2 ?stop2
        case assign2 =>
          intro l x W K hK
          gi_wp2
          exact hK
        case body2 =>
          rintro lp pre x W ⟨ht, hc⟩ hlt
          have c8 : W.cell? ⟨Nb, 0, none⟩ = some (.int .i64 (pre.length : Nat)) := by rw [cell_of_row _ _ _ _ _ _ hc]; rfl
          have f8 : W.frozen? ⟨Nb, 0, none⟩ = false := frozen_of_row _ _ _ _ _ hc
          have c3 : W.cell? ⟨w.heap.size, 0, none⟩ = some (.int .i64 most) := by rw [cell_of_row _ _ _ _ _ _ ((ht.block _ (lt_of_heap CM4.out) NM.out).trans CM4.out)]; rfl
          have c3' : (W.setCell ⟨Nb, 0, none⟩ (.int .i64 ((pre.length : Int) + 1))).cell? ⟨w.heap.size, 0, none⟩ = some (.int .i64 most) := by rw [World.cell?_setCell_other _ _ _ _ (by intro e; injection e with e1 e2; exact NM.out e1.symm)]; exact c3
          have hlen : (pre ++ [x]).length = pre.length + 1 := by simp
          have HT := Lib.hid ht
          have HC := Lib.hid hc
          have k1 : Hid (KeepsFrom w4.heap.size W (W.setCell ⟨Nb, 0, none⟩ (.int .i64 ((pre.length : Int) + 1)))) := KeepsFrom.of_grownBy (grownBy_setCell' W Nb _) (fun j e => by cases e; exact hNbw)
          have k2 : Hid (KeepsAt b W (W.setCell ⟨Nb, 0, none⟩ (.int .i64 ((pre.length : Int) + 1)))) := heap_setCell_other _ _ _ _ (by show b ≠ Nb; omega)
          have k3 : Hid (Turned (fun z => z = Nb) w4 (W.setCell ⟨Nb, 0, none⟩ (.int .i64 ((pre.length : Int) + 1)))) := ht.setCell _ (fun _ => rfl)
          have k4 : Hid ((W.setCell ⟨Nb, 0, none⟩ (.int .i64 ((pre.length : Int) + 1))).heap[Nb]? = some (.cells #[.int .i64 ((pre ++ [x]).length : Nat)] 3 (0, 0))) := by show _ = _; rw [heap_setCell_same _ _ _ _ _ _ hc, hlen]; rfl
          have hpl : pre.length ≤ 1000 := by have := hML.out; omega
          clear ht hc
          by_cases hm : (pre.length : Int) + 1 = most
          · have hmb : ((pre.length : Int) + 1 == most) = true := beq_iff_eq.2 hm
            have HM2 : Hid (((pre ++ [x]).length : Int) = most) := by show _ = _; rw [hlen, ← hm]; rfl
            clear hm hlen
            gi_wp2
            exact ⟨k1.out, rfl, k3.out, k4.out, HM2.out⟩
          · have hmb : ((pre.length : Int) + 1 == most) = false := beq_eq_false_iff_ne.2 hm
            clear hm hlen
            gi_wp2
            exact ⟨k1.out, k2.out, k3.out, k4.out⟩
        case done2 =>
          rintro D ys W hD rfl ⟨ht, hc⟩ hK
          have G1 := Lib.hid fifoS_get_nil
          have G2 := Lib.hid fifoS_first_nil
          have QW := Lib.hid (HQ4.out.turned ht NQ.out NO.out)
          have CN := Lib.hid hc
          have CM := Lib.hid ((ht.block _ (lt_of_heap CM4.out) NM.out).trans CM4.out)
          have CD := Lib.hid hK
          have BW := Lib.hid (BW4.out.trans (ht.below (B := w.heap.size) (fun z e => by rw [show z = Nb from e]; exact NBL.out) BW4.out.size))
          have DL : Hid (w.heap.size ≤ D) := Nat.le_trans BW4.out.size hD
          obtain ⟨cnt, hcnt⟩ : ∃ cnt, cnt = ys.length := ⟨_, rfl⟩
          rw [← hcnt] at CN
          have hck : cnt = k := by rw [hcnt]; exact hML.out
          clear ht hc hK hcnt
          subst hck
          go_wp2_with (first | ((with_reducible refine (G1.out _).mono ?_); rintro e w8 ⟨rfl, rfl⟩) | ((with_reducible refine (G2.out _).mono ?_); rintro e w8 ⟨rfl, rfl⟩) | fail)
          have hst := stab_and (stab_and (stab_q (B := W0.heap.size) (sz := 1) (b := Q) (o := 0) (cs := #[v]) (T := 94) (v := v) (n := ys.length) (xs := strVals ys)) (stab_and (stab_heap Nb (.cells #[.int .i64 (cnt : Nat)] 3 (0, 0))) (stab_heap w.heap.size (.cells #[.int .i64 most] 3 (0, 0))))) (stab_and (stab_heap D (.deferred (some []))) (stab_below (B := w.heap.size) (w0 := w) (Nat.le_refl _)))
          refine wp_region_E mixed [] hst ⟨⟨QW.out.below (below_drew (Below.refl _ _)), CN.out, CM.out⟩, CD.out, below_drew BW.out⟩ ?_
          refine wpAnyE_take 0 (v := .int .i64 (cnt : Nat)) rfl (by kernel_rfl) (by kernel_rfl) (by kernel_rfl) (fun _ _ _ h => h) hst (EffB.run rfl rfl (fun wd hS => ?_)) (.inl (by kernel_rfl)) ?_
          · (have c2 : wd.cell? ⟨Nb, 0, none⟩ = some (.int .i64 (cnt : Nat)) := by rw [cell_of_row _ _ _ _ _ _ hS.1.2.1]; rfl); go_wp2; exact ⟨rfl, Below.refl _ _⟩
          simp only [act_norm]
          refine wpAnyE_take 1 (v := .int .i64 (cnt : Nat)) rfl (by kernel_rfl) (by kernel_rfl) (by kernel_rfl) (fun _ _ _ h => h) hst (EffB.run rfl rfl (fun wd hS => ?_)) (.inl (by kernel_rfl)) ?_
          · (go_wp2_with fail; (with_reducible refine (fifoS_len hS.1.1).mono ?_); rintro e w'' ⟨rfl, rfl⟩; exact ⟨by rw [hML.out]; rfl, Below.refl _ _⟩)
          simp only [act_norm]
          refine wpAnyE_take 2 (v := .bool true) rfl (by kernel_rfl) (by kernel_rfl) (by kernel_rfl) (fun _ _ _ h => h) hst (EffB.run rfl rfl (fun wd hS => ?_)) (.inr (EffB.run rfl rfl (fun wd hS => ?_))) ?_
          · (go_wp2; exact ⟨rfl, Below.refl _ _⟩)
          · (go_wp2; exact ⟨rfl, Below.refl _ _⟩)
          simp only [act_norm]
          refine wpAnyE_take 3 rfl (by kernel_rfl) (by kernel_rfl) (by kernel_rfl) (fun _ _ _ h => h) hst (EffB.pure rfl (fun _ => rfl)) (.inr (EffB.pure rfl (fun _ => rfl))) ?_
          simp only [act_norm]
          refine wpAnyE_take 4 rfl (by kernel_rfl) (by kernel_rfl) (by kernel_rfl) (fun _ _ _ h => h) hst (EffB.skip rfl) (.inr (EffB.skip rfl)) ?_
          simp only [act_norm]
          refine wpAnyE_take 5 rfl (by kernel_rfl) (by kernel_rfl) (by kernel_rfl) (fun _ _ _ h => h) hst (EffB.skip rfl) (.inr (EffB.skip rfl)) ?_
          simp only [act_norm]
          refine wpAnyE_take 6 rfl (by kernel_rfl) (by kernel_rfl) (by kernel_rfl) (fun _ _ _ h => h) hst (EffB.skip rfl) (.inr (EffB.skip rfl)) ?_
          simp only [act_norm]
          refine wpAnyE_take 7 (v := .bool true) rfl (by kernel_rfl) (by kernel_rfl) (by kernel_rfl) (fun _ _ _ h => h) hst (EffB.run rfl rfl (fun wd hS => ?_)) (.inr (EffB.run rfl rfl (fun wd hS => ?_))) ?_
          · (go_wp2; exact ⟨rfl, Below.refl _ _⟩)
          · (go_wp2; exact ⟨rfl, Below.refl _ _⟩)
          simp only [act_norm]
          refine wpAnyE_take 8 rfl (by kernel_rfl) (by kernel_rfl) (by kernel_rfl) (fun _ _ _ h => h) hst (EffB.pure rfl (fun _ => rfl)) (.inr (EffB.pure rfl (fun _ => rfl))) ?_
          simp only [act_norm]
          refine wpAnyE_take 9 rfl (by kernel_rfl) (by kernel_rfl) (by kernel_rfl) (fun _ _ _ h => h) hst (EffB.pure rfl (fun _ => rfl)) (.inr (EffB.pure rfl (fun _ => rfl))) ?_
          simp only [act_norm]
          refine wpAnyE_take 10 (v := .bool true) rfl (by kernel_rfl) (by kernel_rfl) (by kernel_rfl) (fun _ _ _ h => h) hst (EffB.run rfl rfl (fun wd hS => ?_)) (.inr (EffB.run rfl rfl (fun wd hS => ?_))) ?_
          · (go_wp2; exact ⟨rfl, Below.refl _ _⟩)
          · (go_wp2; exact ⟨rfl, Below.refl _ _⟩)
          simp only [act_norm]
          refine wpAnyE_take 11 (v := .bool true) rfl (by kernel_rfl) (by kernel_rfl) (by kernel_rfl) (fun _ _ _ h => h) hst (EffB.run rfl rfl (fun wd hS => ?_)) (.inr (EffB.run rfl rfl (fun wd hS => ?_))) ?_
          · (go_wp2; exact ⟨rfl, Below.refl _ _⟩)
          · (go_wp2; exact ⟨rfl, Below.refl _ _⟩)
          simp only [act_norm]
          refine wpAnyE_take 12 rfl (by kernel_rfl) (by kernel_rfl) (by kernel_rfl) (fun _ _ _ h => h) hst (EffB.pure rfl (fun _ => rfl)) (.inr (EffB.pure rfl (fun _ => rfl))) ?_
          simp only [act_norm]
          refine wpAnyE_take 13 rfl (by kernel_rfl) (by kernel_rfl) (by kernel_rfl) (fun _ _ _ h => h) hst (EffB.pure rfl (fun _ => rfl)) (.inr (EffB.pure rfl (fun _ => rfl))) ?_
          simp only [act_norm]
          refine wpAnyE_take 14 (v := .bool true) rfl (by kernel_rfl) (by kernel_rfl) (by kernel_rfl) (fun _ _ _ h => h) hst (EffB.run rfl rfl (fun wd hS => ?_)) (.inr (EffB.run rfl rfl (fun wd hS => ?_))) ?_
          · (go_wp2; exact ⟨rfl, Below.refl _ _⟩)
          · (go_wp2; exact ⟨rfl, Below.refl _ _⟩)
          simp only [act_norm]
          refine wpAnyE_take 15 (v := .bool true) rfl (by kernel_rfl) (by kernel_rfl) (by kernel_rfl) (fun _ _ _ h => h) hst (EffB.run rfl rfl (fun wd hS => ?_)) (.inr (EffB.run rfl rfl (fun wd hS => ?_))) ?_
          · (go_wp2; exact ⟨rfl, Below.refl _ _⟩)
          · (go_wp2; exact ⟨rfl, Below.refl _ _⟩)
          simp only [act_norm]
          refine wpAnyE_take 16 rfl (by kernel_rfl) (by kernel_rfl) (by kernel_rfl) (fun _ _ _ h => h) hst (EffB.pure rfl (fun _ => rfl)) (.inr (EffB.pure rfl (fun _ => rfl))) ?_
          simp only [act_norm]
          refine wpAnyE_take 17 rfl (by kernel_rfl) (by kernel_rfl) (by kernel_rfl) (fun _ _ _ h => h) hst (EffB.pure rfl (fun _ => rfl)) (.inr (EffB.pure rfl (fun _ => rfl))) ?_
          simp only [act_norm]
          refine wpAnyE_take 18 (v := .int .i64 0) rfl (by kernel_rfl) (by kernel_rfl) (by kernel_rfl) (fun _ _ _ h => h) hst (EffB.run rfl rfl (fun wd hS => ?_)) (.inl (by kernel_rfl)) ?_
          · (go_wp2_with fail; (with_reducible refine (fifoS_len_nil wd).mono ?_); rintro e w'' ⟨rfl, rfl⟩; exact ⟨rfl, Below.refl _ _⟩)
          simp only [act_norm]
          refine wpAnyE_take 19 (v := .bool true) rfl (by kernel_rfl) (by kernel_rfl) (by kernel_rfl) (fun _ _ _ h => h) hst (EffB.run rfl rfl (fun wd hS => ?_)) (.inr (EffB.run rfl rfl (fun wd hS => ?_))) ?_
          · (go_wp2; exact ⟨rfl, Below.refl _ _⟩)
          · (go_wp2; exact ⟨rfl, Below.refl _ _⟩)
          simp only [act_norm]
          refine wpAnyE_take 20 (v := .bool true) rfl (by kernel_rfl) (by kernel_rfl) (by kernel_rfl) (fun _ _ _ h => h) hst (EffB.run rfl rfl (fun wd hS => ?_)) (.inr (EffB.run rfl rfl (fun wd hS => ?_))) ?_
          · (go_wp2; exact ⟨rfl, Below.refl _ _⟩)
          · (go_wp2; exact ⟨rfl, Below.refl _ _⟩)
          simp only [act_norm]
          refine wpAnyE_take 21 rfl (by kernel_rfl) (by kernel_rfl) (by kernel_rfl) (fun _ _ _ h => h) hst (EffB.pure rfl (fun _ => rfl)) (.inr (EffB.pure rfl (fun _ => rfl))) ?_
          simp only [act_norm]
          refine wpAnyE_take 22 rfl (by kernel_rfl) (by kernel_rfl) (by kernel_rfl) (fun _ _ _ h => h) hst (EffB.pure rfl (fun _ => rfl)) (.inr (EffB.pure rfl (fun _ => rfl))) ?_
          simp only [act_norm]
          refine wpAnyE_take 23 (v := .bool false) rfl (by kernel_rfl) (by kernel_rfl) (by kernel_rfl) (fun _ _ _ h => h) hst (EffB.run rfl rfl (fun wd hS => ?_)) (.inl (by kernel_rfl)) ?_
          · (go_wp2_with fail; (with_reducible refine ((fifoS_put_nil { data := #[97] }) wd).mono ?_); rintro e w'' ⟨rfl, rfl⟩; exact ⟨rfl, Below.refl _ _⟩)
          simp only [act_norm]
          refine wpAnyE_take 24 (v := .bool true) rfl (by kernel_rfl) (by kernel_rfl) (by kernel_rfl) (fun _ _ _ h => h) hst (EffB.run rfl rfl (fun wd hS => ?_)) (.inr (EffB.run rfl rfl (fun wd hS => ?_))) ?_
          · (go_wp2; exact ⟨rfl, Below.refl _ _⟩)
          · (go_wp2; exact ⟨rfl, Below.refl _ _⟩)
          simp only [act_norm]
          refine wpAnyE_take 25 (v := .bool true) rfl (by kernel_rfl) (by kernel_rfl) (by kernel_rfl) (fun _ _ _ h => h) hst (EffB.run rfl rfl (fun wd hS => ?_)) (.inr (EffB.run rfl rfl (fun wd hS => ?_))) ?_
          · (go_wp2; exact ⟨rfl, Below.refl _ _⟩)
          · (go_wp2; exact ⟨rfl, Below.refl _ _⟩)
          simp only [act_norm]
          refine wpAnyE_take 26 rfl (by kernel_rfl) (by kernel_rfl) (by kernel_rfl) (fun _ _ _ h => h) hst (EffB.pure rfl (fun _ => rfl)) (.inr (EffB.pure rfl (fun _ => rfl))) ?_
          simp only [act_norm]
          refine wpAnyE_take 27 rfl (by kernel_rfl) (by kernel_rfl) (by kernel_rfl) (fun _ _ _ h => h) hst (EffB.pure rfl (fun _ => rfl)) (.inr (EffB.pure rfl (fun _ => rfl))) ?_
          simp only [act_norm]
          refine wpAnyE_take 28 (v := .bool false) rfl (by kernel_rfl) (by kernel_rfl) (by kernel_rfl) (fun _ _ _ h => h) hst (EffB.run rfl rfl (fun wd hS => ?_)) (.inl (by kernel_rfl)) ?_
          · (go_wp2_with fail; (with_reducible refine ((fifoS_drop_nil { data := #[97] }) wd).mono ?_); rintro e w'' ⟨rfl, hb⟩; exact ⟨rfl, hb⟩)
          simp only [act_norm]
          refine wpAnyE_take 29 (v := .bool true) rfl (by kernel_rfl) (by kernel_rfl) (by kernel_rfl) (fun _ _ _ h => h) hst (EffB.run rfl rfl (fun wd hS => ?_)) (.inr (EffB.run rfl rfl (fun wd hS => ?_))) ?_
          · (go_wp2; exact ⟨rfl, Below.refl _ _⟩)
          · (go_wp2; exact ⟨rfl, Below.refl _ _⟩)
          simp only [act_norm]
          refine wpAnyE_take 30 (v := .bool true) rfl (by kernel_rfl) (by kernel_rfl) (by kernel_rfl) (fun _ _ _ h => h) hst (EffB.run rfl rfl (fun wd hS => ?_)) (.inr (EffB.run rfl rfl (fun wd hS => ?_))) ?_
          · (go_wp2; exact ⟨rfl, Below.refl _ _⟩)
          · (go_wp2; exact ⟨rfl, Below.refl _ _⟩)
          simp only [act_norm]
          refine wpAnyE_take 31 rfl (by kernel_rfl) (by kernel_rfl) (by kernel_rfl) (fun _ _ _ h => h) hst (EffB.pure rfl (fun _ => rfl)) (.inr (EffB.pure rfl (fun _ => rfl))) ?_
          simp only [act_norm]
          refine wpAnyE_take 32 rfl (by kernel_rfl) (by kernel_rfl) (by kernel_rfl) (fun _ _ _ h => h) hst (EffB.pure rfl (fun _ => rfl)) (.inr (EffB.pure rfl (fun _ => rfl))) ?_
          simp only [act_norm]
          refine wpAnyE_take 33 (v := .bool false) rfl (by kernel_rfl) (by kernel_rfl) (by kernel_rfl) (fun _ _ _ h => h) hst (EffB.run rfl rfl (fun wd hS => ?_)) (.inl (by kernel_rfl)) ?_
          · (go_wp2_with fail; (with_reducible refine ((fifoS_has_nil { data := #[97] }) wd).mono ?_); rintro e w'' ⟨rfl, hb⟩; exact ⟨rfl, hb⟩)
          simp only [act_norm]
          refine wpAnyE_take 34 (v := .bool true) rfl (by kernel_rfl) (by kernel_rfl) (by kernel_rfl) (fun _ _ _ h => h) hst (EffB.run rfl rfl (fun wd hS => ?_)) (.inr (EffB.run rfl rfl (fun wd hS => ?_))) ?_
          · (go_wp2; exact ⟨rfl, Below.refl _ _⟩)
          · (go_wp2; exact ⟨rfl, Below.refl _ _⟩)
          simp only [act_norm]
          refine wpAnyE_take 35 (v := .bool true) rfl (by kernel_rfl) (by kernel_rfl) (by kernel_rfl) (fun _ _ _ h => h) hst (EffB.run rfl rfl (fun wd hS => ?_)) (.inr (EffB.run rfl rfl (fun wd hS => ?_))) ?_
          · (go_wp2; exact ⟨rfl, Below.refl _ _⟩)
          · (go_wp2; exact ⟨rfl, Below.refl _ _⟩)
          simp only [act_norm]
          refine wpAnyE_take 36 rfl (by kernel_rfl) (by kernel_rfl) (by kernel_rfl) (fun _ _ _ h => h) hst (EffB.pure rfl (fun _ => rfl)) (.inr (EffB.pure rfl (fun _ => rfl))) ?_
          simp only [act_norm]
          refine wpAnyE_done (by kernel_rfl) (fun wd hS => ?_) _
          have HF := Lib.hid hS
          clear hS hst
          go_wp2
          refine ⟨by simp, .inl ⟨_, _, rfl, run_takeDeferred HF.out.2.1, ?_⟩⟩
          exact ⟨_, results_tmp rfl _ _ _, rfl, HF.out.2.2.trans (belowK_b (w := w) (Nat.le_refl _) wd D _ _ DL.out HF.out.2.1 rfl rfl)⟩
        case stop2 =>
          rintro D cd pre W hD hpre ⟨rfl, ht, hc, hm⟩ hK
          have G1 := Lib.hid fifoS_get_nil
          have G2 := Lib.hid fifoS_first_nil
          have QW := Lib.hid (HQ4.out.turned ht NQ.out NO.out)
          have CN := Lib.hid hc
          have CM := Lib.hid ((ht.block _ (lt_of_heap CM4.out) NM.out).trans CM4.out)
          have CD := Lib.hid hK
          have BW := Lib.hid (BW4.out.trans (ht.below (B := w.heap.size) (fun z e => by rw [show z = Nb from e]; exact NBL.out) BW4.out.size))
          have DL : Hid (w.heap.size ≤ D) := Nat.le_trans BW4.out.size hD
          obtain ⟨cnt, hcnt⟩ : ∃ cnt, cnt = pre.length := ⟨_, rfl⟩
          rw [← hcnt] at CN hm
          clear ht hc hK hcnt
          refine wpIn_wide.2 ?_
          subst hm
          by_cases hck : cnt = k
          · subst hck
            go_wp2_with (first | ((with_reducible refine (G1.out _).mono ?_); rintro e w8 ⟨rfl, rfl⟩) | ((with_reducible refine (G2.out _).mono ?_); rintro e w8 ⟨rfl, rfl⟩) | fail)
            have hst := stab_and (stab_and (stab_q (B := W0.heap.size) (sz := 1) (b := Q) (o := 0) (cs := #[v]) (T := 94) (v := v) (n := M.length) (xs := strVals M)) (stab_and (stab_heap Nb (.cells #[.int .i64 (cnt : Nat)] 3 (0, 0))) (stab_heap w.heap.size (.cells #[.int .i64 (cnt : Nat)] 3 (0, 0))))) (stab_and (stab_heap D (.deferred (some []))) (stab_below (B := w.heap.size) (w0 := w) (Nat.le_refl _)))
            refine wp_region_E mixed [] hst ⟨⟨QW.out.below (below_drew (Below.refl _ _)), CN.out, CM.out⟩, CD.out, below_drew BW.out⟩ ?_
            refine wpAnyE_take 0 (v := .int .i64 (cnt : Nat)) rfl (by kernel_rfl) (by kernel_rfl) (by kernel_rfl) (fun _ _ _ h => h) hst (EffB.run rfl rfl (fun wd hS => ?_)) (.inl (by kernel_rfl)) ?_
            · (have c2 : wd.cell? ⟨Nb, 0, none⟩ = some (.int .i64 (cnt : Nat)) := by rw [cell_of_row _ _ _ _ _ _ hS.1.2.1]; rfl); go_wp2; exact ⟨rfl, Below.refl _ _⟩
            simp only [act_norm]
            refine wpAnyE_take 1 (v := .int .i64 (cnt : Nat)) rfl (by kernel_rfl) (by kernel_rfl) (by kernel_rfl) (fun _ _ _ h => h) hst (EffB.run rfl rfl (fun wd hS => ?_)) (.inl (by kernel_rfl)) ?_
            · (go_wp2_with fail; (with_reducible refine (fifoS_len hS.1.1).mono ?_); rintro e w'' ⟨rfl, rfl⟩; exact ⟨by rw [hML.out]; rfl, Below.refl _ _⟩)
            simp only [act_norm]
            refine wpAnyE_take 2 (v := .bool true) rfl (by kernel_rfl) (by kernel_rfl) (by kernel_rfl) (fun _ _ _ h => h) hst (EffB.run rfl rfl (fun wd hS => ?_)) (.inr (EffB.run rfl rfl (fun wd hS => ?_))) ?_
            · (go_wp2; exact ⟨rfl, Below.refl _ _⟩)
            · (go_wp2; exact ⟨rfl, Below.refl _ _⟩)
            simp only [act_norm]
            refine wpAnyE_take 3 rfl (by kernel_rfl) (by kernel_rfl) (by kernel_rfl) (fun _ _ _ h => h) hst (EffB.pure rfl (fun _ => rfl)) (.inr (EffB.pure rfl (fun _ => rfl))) ?_
            simp only [act_norm]
            refine wpAnyE_take 4 rfl (by kernel_rfl) (by kernel_rfl) (by kernel_rfl) (fun _ _ _ h => h) hst (EffB.skip rfl) (.inr (EffB.skip rfl)) ?_
            simp only [act_norm]
            refine wpAnyE_take 5 rfl (by kernel_rfl) (by kernel_rfl) (by kernel_rfl) (fun _ _ _ h => h) hst (EffB.skip rfl) (.inr (EffB.skip rfl)) ?_
            simp only [act_norm]
            refine wpAnyE_take 6 rfl (by kernel_rfl) (by kernel_rfl) (by kernel_rfl) (fun _ _ _ h => h) hst (EffB.skip rfl) (.inr (EffB.skip rfl)) ?_
            simp only [act_norm]
            refine wpAnyE_take 7 (v := .bool true) rfl (by kernel_rfl) (by kernel_rfl) (by kernel_rfl) (fun _ _ _ h => h) hst (EffB.run rfl rfl (fun wd hS => ?_)) (.inr (EffB.run rfl rfl (fun wd hS => ?_))) ?_
            · (go_wp2; exact ⟨rfl, Below.refl _ _⟩)
            · (go_wp2; exact ⟨rfl, Below.refl _ _⟩)
            simp only [act_norm]
            refine wpAnyE_take 8 rfl (by kernel_rfl) (by kernel_rfl) (by kernel_rfl) (fun _ _ _ h => h) hst (EffB.pure rfl (fun _ => rfl)) (.inr (EffB.pure rfl (fun _ => rfl))) ?_
            simp only [act_norm]
            refine wpAnyE_take 9 rfl (by kernel_rfl) (by kernel_rfl) (by kernel_rfl) (fun _ _ _ h => h) hst (EffB.pure rfl (fun _ => rfl)) (.inr (EffB.pure rfl (fun _ => rfl))) ?_
            simp only [act_norm]
            refine wpAnyE_take 10 (v := .bool true) rfl (by kernel_rfl) (by kernel_rfl) (by kernel_rfl) (fun _ _ _ h => h) hst (EffB.run rfl rfl (fun wd hS => ?_)) (.inr (EffB.run rfl rfl (fun wd hS => ?_))) ?_
            · (go_wp2; exact ⟨rfl, Below.refl _ _⟩)
            · (go_wp2; exact ⟨rfl, Below.refl _ _⟩)
            simp only [act_norm]
            refine wpAnyE_take 11 (v := .bool true) rfl (by kernel_rfl) (by kernel_rfl) (by kernel_rfl) (fun _ _ _ h => h) hst (EffB.run rfl rfl (fun wd hS => ?_)) (.inr (EffB.run rfl rfl (fun wd hS => ?_))) ?_
            · (go_wp2; exact ⟨rfl, Below.refl _ _⟩)
            · (go_wp2; exact ⟨rfl, Below.refl _ _⟩)
            simp only [act_norm]
            refine wpAnyE_take 12 rfl (by kernel_rfl) (by kernel_rfl) (by kernel_rfl) (fun _ _ _ h => h) hst (EffB.pure rfl (fun _ => rfl)) (.inr (EffB.pure rfl (fun _ => rfl))) ?_
            simp only [act_norm]
            refine wpAnyE_take 13 rfl (by kernel_rfl) (by kernel_rfl) (by kernel_rfl) (fun _ _ _ h => h) hst (EffB.pure rfl (fun _ => rfl)) (.inr (EffB.pure rfl (fun _ => rfl))) ?_
            simp only [act_norm]
            refine wpAnyE_take 14 (v := .bool true) rfl (by kernel_rfl) (by kernel_rfl) (by kernel_rfl) (fun _ _ _ h => h) hst (EffB.run rfl rfl (fun wd hS => ?_)) (.inr (EffB.run rfl rfl (fun wd hS => ?_))) ?_
            · (go_wp2; exact ⟨rfl, Below.refl _ _⟩)
            · (go_wp2; exact ⟨rfl, Below.refl _ _⟩)
            simp only [act_norm]
            refine wpAnyE_take 15 (v := .bool true) rfl (by kernel_rfl) (by kernel_rfl) (by kernel_rfl) (fun _ _ _ h => h) hst (EffB.run rfl rfl (fun wd hS => ?_)) (.inr (EffB.run rfl rfl (fun wd hS => ?_))) ?_
            · (go_wp2; exact ⟨rfl, Below.refl _ _⟩)
            · (go_wp2; exact ⟨rfl, Below.refl _ _⟩)
            simp only [act_norm]
            refine wpAnyE_take 16 rfl (by kernel_rfl) (by kernel_rfl) (by kernel_rfl) (fun _ _ _ h => h) hst (EffB.pure rfl (fun _ => rfl)) (.inr (EffB.pure rfl (fun _ => rfl))) ?_
            simp only [act_norm]
            refine wpAnyE_take 17 rfl (by kernel_rfl) (by kernel_rfl) (by kernel_rfl) (fun _ _ _ h => h) hst (EffB.pure rfl (fun _ => rfl)) (.inr (EffB.pure rfl (fun _ => rfl))) ?_
            simp only [act_norm]
            refine wpAnyE_take 18 (v := .int .i64 0) rfl (by kernel_rfl) (by kernel_rfl) (by kernel_rfl) (fun _ _ _ h => h) hst (EffB.run rfl rfl (fun wd hS => ?_)) (.inl (by kernel_rfl)) ?_
            · (go_wp2_with fail; (with_reducible refine (fifoS_len_nil wd).mono ?_); rintro e w'' ⟨rfl, rfl⟩; exact ⟨rfl, Below.refl _ _⟩)
            simp only [act_norm]
            refine wpAnyE_take 19 (v := .bool true) rfl (by kernel_rfl) (by kernel_rfl) (by kernel_rfl) (fun _ _ _ h => h) hst (EffB.run rfl rfl (fun wd hS => ?_)) (.inr (EffB.run rfl rfl (fun wd hS => ?_))) ?_
            · (go_wp2; exact ⟨rfl, Below.refl _ _⟩)
            · (go_wp2; exact ⟨rfl, Below.refl _ _⟩)
            simp only [act_norm]
            refine wpAnyE_take 20 (v := .bool true) rfl (by kernel_rfl) (by kernel_rfl) (by kernel_rfl) (fun _ _ _ h => h) hst (EffB.run rfl rfl (fun wd hS => ?_)) (.inr (EffB.run rfl rfl (fun wd hS => ?_))) ?_
            · (go_wp2; exact ⟨rfl, Below.refl _ _⟩)
            · (go_wp2; exact ⟨rfl, Below.refl _ _⟩)
            simp only [act_norm]
            refine wpAnyE_take 21 rfl (by kernel_rfl) (by kernel_rfl) (by kernel_rfl) (fun _ _ _ h => h) hst (EffB.pure rfl (fun _ => rfl)) (.inr (EffB.pure rfl (fun _ => rfl))) ?_
            simp only [act_norm]
            refine wpAnyE_take 22 rfl (by kernel_rfl) (by kernel_rfl) (by kernel_rfl) (fun _ _ _ h => h) hst (EffB.pure rfl (fun _ => rfl)) (.inr (EffB.pure rfl (fun _ => rfl))) ?_
            simp only [act_norm]
            refine wpAnyE_take 23 (v := .bool false) rfl (by kernel_rfl) (by kernel_rfl) (by kernel_rfl) (fun _ _ _ h => h) hst (EffB.run rfl rfl (fun wd hS => ?_)) (.inl (by kernel_rfl)) ?_
            · (go_wp2_with fail; (with_reducible refine ((fifoS_put_nil { data := #[97] }) wd).mono ?_); rintro e w'' ⟨rfl, rfl⟩; exact ⟨rfl, Below.refl _ _⟩)
            simp only [act_norm]
            refine wpAnyE_take 24 (v := .bool true) rfl (by kernel_rfl) (by kernel_rfl) (by kernel_rfl) (fun _ _ _ h => h) hst (EffB.run rfl rfl (fun wd hS => ?_)) (.inr (EffB.run rfl rfl (fun wd hS => ?_))) ?_
            · (go_wp2; exact ⟨rfl, Below.refl _ _⟩)
            · (go_wp2; exact ⟨rfl, Below.refl _ _⟩)
            simp only [act_norm]
            refine wpAnyE_take 25 (v := .bool true) rfl (by kernel_rfl) (by kernel_rfl) (by kernel_rfl) (fun _ _ _ h => h) hst (EffB.run rfl rfl (fun wd hS => ?_)) (.inr (EffB.run rfl rfl (fun wd hS => ?_))) ?_
            · (go_wp2; exact ⟨rfl, Below.refl _ _⟩)
            · (go_wp2; exact ⟨rfl, Below.refl _ _⟩)
            simp only [act_norm]
            refine wpAnyE_take 26 rfl (by kernel_rfl) (by kernel_rfl) (by kernel_rfl) (fun _ _ _ h => h) hst (EffB.pure rfl (fun _ => rfl)) (.inr (EffB.pure rfl (fun _ => rfl))) ?_
            simp only [act_norm]
            refine wpAnyE_take 27 rfl (by kernel_rfl) (by kernel_rfl) (by kernel_rfl) (fun _ _ _ h => h) hst (EffB.pure rfl (fun _ => rfl)) (.inr (EffB.pure rfl (fun _ => rfl))) ?_
            simp only [act_norm]
            refine wpAnyE_take 28 (v := .bool false) rfl (by kernel_rfl) (by kernel_rfl) (by kernel_rfl) (fun _ _ _ h => h) hst (EffB.run rfl rfl (fun wd hS => ?_)) (.inl (by kernel_rfl)) ?_
            · (go_wp2_with fail; (with_reducible refine ((fifoS_drop_nil { data := #[97] }) wd).mono ?_); rintro e w'' ⟨rfl, hb⟩; exact ⟨rfl, hb⟩)
            simp only [act_norm]
            refine wpAnyE_take 29 (v := .bool true) rfl (by kernel_rfl) (by kernel_rfl) (by kernel_rfl) (fun _ _ _ h => h) hst (EffB.run rfl rfl (fun wd hS => ?_)) (.inr (EffB.run rfl rfl (fun wd hS => ?_))) ?_
            · (go_wp2; exact ⟨rfl, Below.refl _ _⟩)
            · (go_wp2; exact ⟨rfl, Below.refl _ _⟩)
            simp only [act_norm]
            refine wpAnyE_take 30 (v := .bool true) rfl (by kernel_rfl) (by kernel_rfl) (by kernel_rfl) (fun _ _ _ h => h) hst (EffB.run rfl rfl (fun wd hS => ?_)) (.inr (EffB.run rfl rfl (fun wd hS => ?_))) ?_
            · (go_wp2; exact ⟨rfl, Below.refl _ _⟩)
            · (go_wp2; exact ⟨rfl, Below.refl _ _⟩)
            simp only [act_norm]
            refine wpAnyE_take 31 rfl (by kernel_rfl) (by kernel_rfl) (by kernel_rfl) (fun _ _ _ h => h) hst (EffB.pure rfl (fun _ => rfl)) (.inr (EffB.pure rfl (fun _ => rfl))) ?_
            simp only [act_norm]
            refine wpAnyE_take 32 rfl (by kernel_rfl) (by kernel_rfl) (by kernel_rfl) (fun _ _ _ h => h) hst (EffB.pure rfl (fun _ => rfl)) (.inr (EffB.pure rfl (fun _ => rfl))) ?_
            simp only [act_norm]
            refine wpAnyE_take 33 (v := .bool false) rfl (by kernel_rfl) (by kernel_rfl) (by kernel_rfl) (fun _ _ _ h => h) hst (EffB.run rfl rfl (fun wd hS => ?_)) (.inl (by kernel_rfl)) ?_
            · (go_wp2_with fail; (with_reducible refine ((fifoS_has_nil { data := #[97] }) wd).mono ?_); rintro e w'' ⟨rfl, hb⟩; exact ⟨rfl, hb⟩)
            simp only [act_norm]
            refine wpAnyE_take 34 (v := .bool true) rfl (by kernel_rfl) (by kernel_rfl) (by kernel_rfl) (fun _ _ _ h => h) hst (EffB.run rfl rfl (fun wd hS => ?_)) (.inr (EffB.run rfl rfl (fun wd hS => ?_))) ?_
            · (go_wp2; exact ⟨rfl, Below.refl _ _⟩)
            · (go_wp2; exact ⟨rfl, Below.refl _ _⟩)
            simp only [act_norm]
            refine wpAnyE_take 35 (v := .bool true) rfl (by kernel_rfl) (by kernel_rfl) (by kernel_rfl) (fun _ _ _ h => h) hst (EffB.run rfl rfl (fun wd hS => ?_)) (.inr (EffB.run rfl rfl (fun wd hS => ?_))) ?_
            · (go_wp2; exact ⟨rfl, Below.refl _ _⟩)
            · (go_wp2; exact ⟨rfl, Below.refl _ _⟩)
            simp only [act_norm]
            refine wpAnyE_take 36 rfl (by kernel_rfl) (by kernel_rfl) (by kernel_rfl) (fun _ _ _ h => h) hst (EffB.pure rfl (fun _ => rfl)) (.inr (EffB.pure rfl (fun _ => rfl))) ?_
            simp only [act_norm]
            refine wpAnyE_done (by kernel_rfl) (fun wd hS => ?_) _
            have HF := Lib.hid hS
            clear hS hst
            go_wp2
            refine ⟨by simp, .inl ⟨_, _, rfl, run_takeDeferred HF.out.2.1, ?_⟩⟩
            exact ⟨_, results_tmp rfl _ _ _, rfl, HF.out.2.2.trans (belowK_b (w := w) (Nat.le_refl _) wd D _ _ DL.out HF.out.2.1 rfl rfl)⟩
          · have hcb : ((cnt : Int) == (k : Int)) = false := beq_eq_false_iff_ne.2 (by omega)
            have hcb2 : (cnt == k) = false := beq_eq_false_iff_ne.2 hck
            go_wp2_with (first | ((with_reducible refine (G1.out _).mono ?_); rintro e w8 ⟨rfl, rfl⟩) | ((with_reducible refine (G2.out _).mono ?_); rintro e w8 ⟨rfl, rfl⟩) | fail)
            have hst := stab_and (stab_and (stab_q (B := W0.heap.size) (sz := 1) (b := Q) (o := 0) (cs := #[v]) (T := 94) (v := v) (n := M.length) (xs := strVals M)) (stab_and (stab_heap Nb (.cells #[.int .i64 (cnt : Nat)] 3 (0, 0))) (stab_heap w.heap.size (.cells #[.int .i64 (cnt : Nat)] 3 (0, 0))))) (stab_and (stab_heap D (.deferred (some []))) (stab_below (B := w.heap.size) (w0 := w) (Nat.le_refl _)))
            refine wp_region_E mixed [] hst ⟨⟨QW.out.below (below_drew (Below.refl _ _)), CN.out, CM.out⟩, CD.out, below_drew BW.out⟩ ?_
            refine wpAnyE_take 0 (v := .int .i64 (cnt : Nat)) rfl (by kernel_rfl) (by kernel_rfl) (by kernel_rfl) (fun _ _ _ h => h) hst (EffB.run rfl rfl (fun wd hS => ?_)) (.inl (by kernel_rfl)) ?_
            · (have c2 : wd.cell? ⟨Nb, 0, none⟩ = some (.int .i64 (cnt : Nat)) := by rw [cell_of_row _ _ _ _ _ _ hS.1.2.1]; rfl); go_wp2; exact ⟨rfl, Below.refl _ _⟩
            simp only [act_norm]
            refine wpAnyE_take 1 (v := .int .i64 (k : Nat)) rfl (by kernel_rfl) (by kernel_rfl) (by kernel_rfl) (fun _ _ _ h => h) hst (EffB.run rfl rfl (fun wd hS => ?_)) (.inl (by kernel_rfl)) ?_
            · (go_wp2_with fail; (with_reducible refine (fifoS_len hS.1.1).mono ?_); rintro e w'' ⟨rfl, rfl⟩; exact ⟨by rw [hML.out]; rfl, Below.refl _ _⟩)
            simp only [act_norm]
            refine wpAnyE_take 2 (v := .bool false) rfl (by kernel_rfl) (by kernel_rfl) (by kernel_rfl) (fun _ _ _ h => h) hst (EffB.run rfl rfl (fun wd hS => ?_)) (.inr (EffB.run rfl rfl (fun wd hS => ?_))) ?_
            · (go_wp2; exact ⟨rfl, Below.refl _ _⟩)
            · (go_wp2; exact ⟨rfl, Below.refl _ _⟩)
            simp only [act_norm]
            refine wpAnyE_take 3 rfl (by kernel_rfl) (by kernel_rfl) (by kernel_rfl) (fun _ _ _ h => h) hst (EffB.pure rfl (fun _ => rfl)) (.inr (EffB.pure rfl (fun _ => rfl))) ?_
            simp only [act_norm]
            refine wpAnyE_take 4 (v := .int .i64 (cnt : Nat)) rfl (by kernel_rfl) (by kernel_rfl) (by kernel_rfl) (fun _ _ _ h => h) hst (EffB.run rfl rfl (fun wd hS => ?_)) (.inl (by kernel_rfl)) ?_
            · (have c2 : wd.cell? ⟨Nb, 0, none⟩ = some (.int .i64 (cnt : Nat)) := by rw [cell_of_row _ _ _ _ _ _ hS.1.2.1]; rfl); go_wp2; exact ⟨rfl, Below.refl _ _⟩
            simp only [act_norm]
            refine wpAnyE_take 5 (v := .int .i64 (cnt : Nat)) rfl (by kernel_rfl) (by kernel_rfl) (by kernel_rfl) (fun _ _ _ h => h) hst (EffB.run rfl rfl (fun wd hS => ?_)) (.inl (by kernel_rfl)) ?_
            · (have c2 : wd.cell? ⟨w.heap.size, 0, none⟩ = some (.int .i64 (cnt : Nat)) := by rw [cell_of_row _ _ _ _ _ _ hS.1.2.2]; rfl); go_wp2; exact ⟨rfl, Below.refl _ _⟩
            simp only [act_norm]
            refine wpAnyE_take 6 (v := .bool true) rfl (by kernel_rfl) (by kernel_rfl) (by kernel_rfl) (fun _ _ _ h => h) hst (EffB.run rfl rfl (fun wd hS => ?_)) (.inr (EffB.run rfl rfl (fun wd hS => ?_))) ?_
            · (go_wp2; exact ⟨rfl, Below.refl _ _⟩)
            · (go_wp2; exact ⟨rfl, Below.refl _ _⟩)
            simp only [act_norm]
            refine wpAnyE_take 7 (v := .bool true) rfl (by kernel_rfl) (by kernel_rfl) (by kernel_rfl) (fun _ _ _ h => h) hst (EffB.run rfl rfl (fun wd hS => ?_)) (.inr (EffB.run rfl rfl (fun wd hS => ?_))) ?_
            · (go_wp2; exact ⟨rfl, Below.refl _ _⟩)
            · (go_wp2; exact ⟨rfl, Below.refl _ _⟩)
            simp only [act_norm]
            refine wpAnyE_take 8 rfl (by kernel_rfl) (by kernel_rfl) (by kernel_rfl) (fun _ _ _ h => h) hst (EffB.pure rfl (fun _ => rfl)) (.inr (EffB.pure rfl (fun _ => rfl))) ?_
            simp only [act_norm]
            refine wpAnyE_take 9 rfl (by kernel_rfl) (by kernel_rfl) (by kernel_rfl) (fun _ _ _ h => h) hst (EffB.pure rfl (fun _ => rfl)) (.inr (EffB.pure rfl (fun _ => rfl))) ?_
            simp only [act_norm]
            refine wpAnyE_take 10 (v := .bool true) rfl (by kernel_rfl) (by kernel_rfl) (by kernel_rfl) (fun _ _ _ h => h) hst (EffB.run rfl rfl (fun wd hS => ?_)) (.inr (EffB.run rfl rfl (fun wd hS => ?_))) ?_
            · (go_wp2; exact ⟨rfl, Below.refl _ _⟩)
            · (go_wp2; exact ⟨rfl, Below.refl _ _⟩)
            simp only [act_norm]
            refine wpAnyE_take 11 (v := .bool true) rfl (by kernel_rfl) (by kernel_rfl) (by kernel_rfl) (fun _ _ _ h => h) hst (EffB.run rfl rfl (fun wd hS => ?_)) (.inr (EffB.run rfl rfl (fun wd hS => ?_))) ?_
            · (go_wp2; exact ⟨rfl, Below.refl _ _⟩)
            · (go_wp2; exact ⟨rfl, Below.refl _ _⟩)
            simp only [act_norm]
            refine wpAnyE_take 12 rfl (by kernel_rfl) (by kernel_rfl) (by kernel_rfl) (fun _ _ _ h => h) hst (EffB.pure rfl (fun _ => rfl)) (.inr (EffB.pure rfl (fun _ => rfl))) ?_
            simp only [act_norm]
            refine wpAnyE_take 13 rfl (by kernel_rfl) (by kernel_rfl) (by kernel_rfl) (fun _ _ _ h => h) hst (EffB.pure rfl (fun _ => rfl)) (.inr (EffB.pure rfl (fun _ => rfl))) ?_
            simp only [act_norm]
            refine wpAnyE_take 14 (v := .bool true) rfl (by kernel_rfl) (by kernel_rfl) (by kernel_rfl) (fun _ _ _ h => h) hst (EffB.run rfl rfl (fun wd hS => ?_)) (.inr (EffB.run rfl rfl (fun wd hS => ?_))) ?_
            · (go_wp2; exact ⟨rfl, Below.refl _ _⟩)
            · (go_wp2; exact ⟨rfl, Below.refl _ _⟩)
            simp only [act_norm]
            refine wpAnyE_take 15 (v := .bool true) rfl (by kernel_rfl) (by kernel_rfl) (by kernel_rfl) (fun _ _ _ h => h) hst (EffB.run rfl rfl (fun wd hS => ?_)) (.inr (EffB.run rfl rfl (fun wd hS => ?_))) ?_
            · (go_wp2; exact ⟨rfl, Below.refl _ _⟩)
            · (go_wp2; exact ⟨rfl, Below.refl _ _⟩)
            simp only [act_norm]
            refine wpAnyE_take 16 rfl (by kernel_rfl) (by kernel_rfl) (by kernel_rfl) (fun _ _ _ h => h) hst (EffB.pure rfl (fun _ => rfl)) (.inr (EffB.pure rfl (fun _ => rfl))) ?_
            simp only [act_norm]
            refine wpAnyE_take 17 rfl (by kernel_rfl) (by kernel_rfl) (by kernel_rfl) (fun _ _ _ h => h) hst (EffB.pure rfl (fun _ => rfl)) (.inr (EffB.pure rfl (fun _ => rfl))) ?_
            simp only [act_norm]
            refine wpAnyE_take 18 (v := .int .i64 0) rfl (by kernel_rfl) (by kernel_rfl) (by kernel_rfl) (fun _ _ _ h => h) hst (EffB.run rfl rfl (fun wd hS => ?_)) (.inl (by kernel_rfl)) ?_
            · (go_wp2_with fail; (with_reducible refine (fifoS_len_nil wd).mono ?_); rintro e w'' ⟨rfl, rfl⟩; exact ⟨rfl, Below.refl _ _⟩)
            simp only [act_norm]
            refine wpAnyE_take 19 (v := .bool true) rfl (by kernel_rfl) (by kernel_rfl) (by kernel_rfl) (fun _ _ _ h => h) hst (EffB.run rfl rfl (fun wd hS => ?_)) (.inr (EffB.run rfl rfl (fun wd hS => ?_))) ?_
            · (go_wp2; exact ⟨rfl, Below.refl _ _⟩)
            · (go_wp2; exact ⟨rfl, Below.refl _ _⟩)
            simp only [act_norm]
            refine wpAnyE_take 20 (v := .bool true) rfl (by kernel_rfl) (by kernel_rfl) (by kernel_rfl) (fun _ _ _ h => h) hst (EffB.run rfl rfl (fun wd hS => ?_)) (.inr (EffB.run rfl rfl (fun wd hS => ?_))) ?_
            · (go_wp2; exact ⟨rfl, Below.refl _ _⟩)
            · (go_wp2; exact ⟨rfl, Below.refl _ _⟩)
            simp only [act_norm]
            refine wpAnyE_take 21 rfl (by kernel_rfl) (by kernel_rfl) (by kernel_rfl) (fun _ _ _ h => h) hst (EffB.pure rfl (fun _ => rfl)) (.inr (EffB.pure rfl (fun _ => rfl))) ?_
            simp only [act_norm]
            refine wpAnyE_take 22 rfl (by kernel_rfl) (by kernel_rfl) (by kernel_rfl) (fun _ _ _ h => h) hst (EffB.pure rfl (fun _ => rfl)) (.inr (EffB.pure rfl (fun _ => rfl))) ?_
            simp only [act_norm]
            refine wpAnyE_take 23 (v := .bool false) rfl (by kernel_rfl) (by kernel_rfl) (by kernel_rfl) (fun _ _ _ h => h) hst (EffB.run rfl rfl (fun wd hS => ?_)) (.inl (by kernel_rfl)) ?_
            · (go_wp2_with fail; (with_reducible refine ((fifoS_put_nil { data := #[97] }) wd).mono ?_); rintro e w'' ⟨rfl, rfl⟩; exact ⟨rfl, Below.refl _ _⟩)
            simp only [act_norm]
            refine wpAnyE_take 24 (v := .bool true) rfl (by kernel_rfl) (by kernel_rfl) (by kernel_rfl) (fun _ _ _ h => h) hst (EffB.run rfl rfl (fun wd hS => ?_)) (.inr (EffB.run rfl rfl (fun wd hS => ?_))) ?_
            · (go_wp2; exact ⟨rfl, Below.refl _ _⟩)
            · (go_wp2; exact ⟨rfl, Below.refl _ _⟩)
            simp only [act_norm]
            refine wpAnyE_take 25 (v := .bool true) rfl (by kernel_rfl) (by kernel_rfl) (by kernel_rfl) (fun _ _ _ h => h) hst (EffB.run rfl rfl (fun wd hS => ?_)) (.inr (EffB.run rfl rfl (fun wd hS => ?_))) ?_
            · (go_wp2; exact ⟨rfl, Below.refl _ _⟩)
            · (go_wp2; exact ⟨rfl, Below.refl _ _⟩)
            simp only [act_norm]
            refine wpAnyE_take 26 rfl (by kernel_rfl) (by kernel_rfl) (by kernel_rfl) (fun _ _ _ h => h) hst (EffB.pure rfl (fun _ => rfl)) (.inr (EffB.pure rfl (fun _ => rfl))) ?_
            simp only [act_norm]
            refine wpAnyE_take 27 rfl (by kernel_rfl) (by kernel_rfl) (by kernel_rfl) (fun _ _ _ h => h) hst (EffB.pure rfl (fun _ => rfl)) (.inr (EffB.pure rfl (fun _ => rfl))) ?_
            simp only [act_norm]
            refine wpAnyE_take 28 (v := .bool false) rfl (by kernel_rfl) (by kernel_rfl) (by kernel_rfl) (fun _ _ _ h => h) hst (EffB.run rfl rfl (fun wd hS => ?_)) (.inl (by kernel_rfl)) ?_
            · (go_wp2_with fail; (with_reducible refine ((fifoS_drop_nil { data := #[97] }) wd).mono ?_); rintro e w'' ⟨rfl, hb⟩; exact ⟨rfl, hb⟩)
            simp only [act_norm]
            refine wpAnyE_take 29 (v := .bool true) rfl (by kernel_rfl) (by kernel_rfl) (by kernel_rfl) (fun _ _ _ h => h) hst (EffB.run rfl rfl (fun wd hS => ?_)) (.inr (EffB.run rfl rfl (fun wd hS => ?_))) ?_
            · (go_wp2; exact ⟨rfl, Below.refl _ _⟩)
            · (go_wp2; exact ⟨rfl, Below.refl _ _⟩)
            simp only [act_norm]
            refine wpAnyE_take 30 (v := .bool true) rfl (by kernel_rfl) (by kernel_rfl) (by kernel_rfl) (fun _ _ _ h => h) hst (EffB.run rfl rfl (fun wd hS => ?_)) (.inr (EffB.run rfl rfl (fun wd hS => ?_))) ?_
            · (go_wp2; exact ⟨rfl, Below.refl _ _⟩)
            · (go_wp2; exact ⟨rfl, Below.refl _ _⟩)
            simp only [act_norm]
            refine wpAnyE_take 31 rfl (by kernel_rfl) (by kernel_rfl) (by kernel_rfl) (fun _ _ _ h => h) hst (EffB.pure rfl (fun _ => rfl)) (.inr (EffB.pure rfl (fun _ => rfl))) ?_
            simp only [act_norm]
            refine wpAnyE_take 32 rfl (by kernel_rfl) (by kernel_rfl) (by kernel_rfl) (fun _ _ _ h => h) hst (EffB.pure rfl (fun _ => rfl)) (.inr (EffB.pure rfl (fun _ => rfl))) ?_
            simp only [act_norm]
            refine wpAnyE_take 33 (v := .bool false) rfl (by kernel_rfl) (by kernel_rfl) (by kernel_rfl) (fun _ _ _ h => h) hst (EffB.run rfl rfl (fun wd hS => ?_)) (.inl (by kernel_rfl)) ?_
            · (go_wp2_with fail; (with_reducible refine ((fifoS_has_nil { data := #[97] }) wd).mono ?_); rintro e w'' ⟨rfl, hb⟩; exact ⟨rfl, hb⟩)
            simp only [act_norm]
            refine wpAnyE_take 34 (v := .bool true) rfl (by kernel_rfl) (by kernel_rfl) (by kernel_rfl) (fun _ _ _ h => h) hst (EffB.run rfl rfl (fun wd hS => ?_)) (.inr (EffB.run rfl rfl (fun wd hS => ?_))) ?_
            · (go_wp2; exact ⟨rfl, Below.refl _ _⟩)
            · (go_wp2; exact ⟨rfl, Below.refl _ _⟩)
            simp only [act_norm]
            refine wpAnyE_take 35 (v := .bool true) rfl (by kernel_rfl) (by kernel_rfl) (by kernel_rfl) (fun _ _ _ h => h) hst (EffB.run rfl rfl (fun wd hS => ?_)) (.inr (EffB.run rfl rfl (fun wd hS => ?_))) ?_
            · (go_wp2; exact ⟨rfl, Below.refl _ _⟩)
            · (go_wp2; exact ⟨rfl, Below.refl _ _⟩)
            simp only [act_norm]
            refine wpAnyE_take 36 rfl (by kernel_rfl) (by kernel_rfl) (by kernel_rfl) (fun _ _ _ h => h) hst (EffB.pure rfl (fun _ => rfl)) (.inr (EffB.pure rfl (fun _ => rfl))) ?_
            simp only [act_norm]
            refine wpAnyE_done (by kernel_rfl) (fun wd hS => ?_) _
            have HF := Lib.hid hS
            clear hS hst
            go_wp2
            refine ⟨by simp, .inl ⟨_, _, rfl, run_takeDeferred HF.out.2.1, ?_⟩⟩
            exact ⟨_, results_tmp rfl _ _ _, rfl, HF.out.2.2.trans (belowK_b (w := w) (Nat.le_refl _) wd D _ _ DL.out HF.out.2.1 rfl rfl)⟩
end Go.Proofs.Ytapgcbjlgekpeaa
