/- Layer 52: the line of samples. -/
import Derived.Test.YtcanbagnehdbiaaJTrend
namespace Go.Proofs.Ytcanbagnehdbiaa
open Go.ChangeShapes Go.WideShapes Go.ChangeAt Go.RowKit

theorem Samps.takeN {w : World} {b off : Nat} {l : List Samp} (h : Samps w (some ⟨b, off, none⟩) l) (k : Nat) : Samps w (some ⟨b, off, none⟩) (l.take k) := by
  rcases h with h0 | ⟨b', off', e, hb, hc⟩
  · left; rw [List.length_take]; omega
  · refine .inr ⟨b', off', e, hb, fun j hj => ?_⟩
    rw [List.length_take] at hj
    rw [hc j (by omega)]
    show some (Value.int .i64 ((l[j / 2]?.getD default).get (j % 2))) = some (Value.int .i64 (((l.take k)[j / 2]?.getD default).get (j % 2)))
    rw [List.getElem?_take_of_lt (by omega)]
theorem Samps.dropN {w : World} {b off : Nat} {l : List Samp} (h : Samps w (some ⟨b, off, none⟩) l) (k : Nat) : Samps w (some ⟨b, off + k * 2, none⟩) (l.drop k) := by
  rcases h with h0 | ⟨b', off', e, hb, hc⟩
  · left; rw [List.length_drop]; omega
  · simp only [Option.some.injEq, Addr.mk.injEq, and_true] at e
    obtain ⟨rfl, rfl⟩ := e
    refine .inr ⟨b, off + k * 2, rfl, hb, fun j hj => ?_⟩
    rw [List.length_drop] at hj
    have := hc (k * 2 + j) (by omega)
    rw [← Nat.add_assoc] at this
    rw [this]
    show some (Value.int .i64 ((l[(k * 2 + j) / 2]?.getD default).get ((k * 2 + j) % 2))) = some (Value.int .i64 (((l.drop k)[j / 2]?.getD default).get (j % 2)))
    rw [show (k * 2 + j) / 2 = k + j / 2 by omega, show (k * 2 + j) % 2 = j % 2 by omega, List.getElem?_drop]

theorem Samps.setOther {w : World} {b off Y j : Nat} {v : Value} {l : List Samp} (h : Samps w (some ⟨b, off, none⟩) l) (hne : b ≠ Y) : Samps (w.setCell ⟨Y, j, none⟩ v) (some ⟨b, off, none⟩) l := by
  rcases h with h0 | ⟨b', off', e, hb, hc⟩
  · exact .inl h0
  · simp only [Option.some.injEq, Addr.mk.injEq, and_true] at e
    obtain ⟨rfl, rfl⟩ := e
    refine .inr ⟨b, off, rfl, by simpa [World.setCell] using hb, fun k hk => ?_⟩
    rw [← hc k hk]
    unfold World.cell?
    simp only
    rw [Below.heap_setCell _ _ _ _ hne]
theorem Samps.lt {w : World} {b off : Nat} {l : List Samp} (h : Samps w (some ⟨b, off, none⟩) l) (h0 : l.length ≠ 0) : b < w.heap.size := by
  obtain ⟨b', off', e, hb, _⟩ := h.cells 0 (by omega)
  simp only [Option.some.injEq, Addr.mk.injEq, and_true] at e
  obtain ⟨rfl, rfl⟩ := e
  exact hb
/-- A sample that may be. -/
def Samp.Good (a : Samp) : Prop := a.In ∧ 0 ≤ a.tick ∧ 0 ≤ a.val
theorem Ser.put_mem {L : List Samp} {room : Nat} {x a : Samp} (h : a ∈ Ser.put L room x) : a ∈ L ∨ a = x := by
  have h1 : a ∈ Ser.ins L x := by
    unfold Ser.put Ser.cutTo at h
    split at h
    · exact List.mem_of_mem_drop h
    · exact h
  unfold Ser.ins at h1
  split at h1
  · rcases List.mem_or_eq_of_mem_set h1 with h | h
    · exact .inl h
    · exact .inr h
  · rcases List.mem_append.1 h1 with h | h
    · exact .inl (List.mem_of_mem_take h)
    · rcases List.mem_cons.1 h with h | h
      · exact .inr h
      · exact .inl (List.mem_of_mem_drop h)
theorem Ser.of_good (room : Nat) (l : List Samp) (hl : ∀ a ∈ l, a.In) : ∀ k, k ≤ l.length → ∀ a ∈ Ser.of room l k, a.Good
  | 0, _ => by simp [Ser.of]
  | k + 1, h => by
    have ih := Ser.of_good room l hl k (by omega)
    rw [Ser.of_next room l k (by omega)]
    unfold Ser.step
    have hx : (l[k]?.getD default).In := by rw [List.getElem?_eq_getElem (by omega)]; exact hl _ (List.getElem_mem _)
    generalize l[k]?.getD default = x at hx
    split
    · rename_i hc
      intro a ha
      rcases Ser.put_mem ha with h | h
      · exact ih a h
      · subst h
        refine ⟨hx, ?_⟩
        unfold Ser.code at hc
        split at hc
        · omega
        · split at hc
          · omega
          · omega
    · exact ih
theorem trd_field4 (a b c d e : Int) (w : World) : (Instr.field 137 (.agg #[.int .i64 a, .int .i64 b, .int .i64 c, .int .i64 d, .int .i64 e]) 4).run Try.prog w = .ok (.int .i64 e) w := by kernel_rfl
def Trd.mean (l : List Samp) : Int := (Stat.of (Samp.vals l)).mean
theorem Trd.mean_bd (l : List Samp) : 0 ≤ Trd.mean l ∧ Trd.mean l ≤ 9223372036854775807 := by
  unfold Trd.mean Stat.of
  split
  · exact ⟨Int.le_refl _, by decide⟩
  · have h2 := Wide.up_I64 (Bits.total (Samp.vals l)) (Samp.vals l).length
    refine ⟨?_, h2.2⟩
    show 0 ≤ Wide.up _ _
    unfold Wide.up
    split
    · omega
    · generalize Bits.total (Samp.vals l) / (Samp.vals l).length + _ = x
      unfold Bits.small
      split <;> omega
def Trd.line (L : List Samp) : Lin :=
  if L.length = 0 then ⟨0, 0, 0, 0⟩ else if L.length = 1 then ⟨(L[0]?.getD default).tick, (L[0]?.getD default).val, 0, 1⟩
  else ⟨Trd.mid (L.drop (L.length - L.length / 2)), Trd.mean (L.drop (L.length - L.length / 2)), Trd.mean (L.drop (L.length - L.length / 2)) - Trd.mean (L.take (L.length / 2)), Trd.mid (L.drop (L.length - L.length / 2)) - Trd.mid (L.take (L.length / 2))⟩
theorem Trd.parts {L : List Samp} (hs : Ser.Sorted L) (hg : ∀ a ∈ L, a.Good) {m h : Nat} (e : L.length = m + h) (h1 : 1 ≤ h) (h2 : h ≤ m) :
    ∃ a1 d1 a2 d2 : Nat, ((L.take h)[0]?.getD default).tick = (a1 : Int) ∧ ((L.take h)[(L.take h).length - 1]?.getD default).tick = (a1 : Int) + d1 ∧ ((L.drop m)[0]?.getD default).tick = (a2 : Int) ∧ ((L.drop m)[(L.drop m).length - 1]?.getD default).tick = (a2 : Int) + d2 ∧ a1 + d1 < a2 ∧ a2 + d2 ≤ 9223372036854775807 := by
  have hT : ∀ k, k < L.length → 0 ≤ Ser.tk L k ∧ Ser.tk L k ≤ 9223372036854775807 := fun k hk => by
    unfold Ser.tk
    rw [List.getElem?_eq_getElem hk]
    have := hg _ (List.getElem_mem hk)
    exact ⟨this.2.1, this.1.1.2⟩
  have hle : ∀ i j, i ≤ j → j < L.length → Ser.tk L i ≤ Ser.tk L j := fun i j hij hj => by
    by_cases e : i = j
    · subst e; exact Int.le_refl _
    · exact Int.le_of_lt (hs i j (by omega) hj)
  have t0 := hT 0 (by omega)
  have t1 := hT (h - 1) (by omega)
  have t2 := hT m (by omega)
  have t3 := hT (m + h - 1) (by omega)
  have l1 := hle 0 (h - 1) (by omega) (by omega)
  have l2 := hs (h - 1) m (by omega) (by omega)
  have l3 := hle m (m + h - 1) (by omega) (by omega)
  refine ⟨(Ser.tk L 0).toNat, (Ser.tk L (h - 1) - Ser.tk L 0).toNat, (Ser.tk L m).toNat, (Ser.tk L (m + h - 1) - Ser.tk L m).toNat, ?_, ?_, ?_, ?_, by omega, by omega⟩
  · rw [List.getElem?_take_of_lt (by omega)]; show Ser.tk L 0 = _; omega
  · rw [List.length_take, show min h L.length - 1 = h - 1 by omega, List.getElem?_take_of_lt (by omega)]; show Ser.tk L (h - 1) = _; omega
  · rw [List.getElem?_drop]; show Ser.tk L (m + 0) = _; rw [Nat.add_zero]; omega
  · rw [List.length_drop, List.getElem?_drop, show m + (L.length - m - 1) = m + h - 1 by omega]; show Ser.tk L (m + h - 1) = _; omega
theorem Trd.mid_of {l : List Samp} {a d : Nat} (ha : (l[0]?.getD default).tick = (a : Int)) (hd : (l[l.length - 1]?.getD default).tick = (a : Int) + d) : Trd.mid l = (a : Int) + (d / 2 : Nat) := by
  unfold Trd.mid; rw [hd, ha]; omega
theorem Trd.line_some {L : List Samp} {m h : Nat} (e : L.length = m + h) (h1 : 1 ≤ h) (h2 : h ≤ m) (h3 : m ≤ h + 1) : Trd.line L = ⟨Trd.mid (L.drop m), Trd.mean (L.drop m), Trd.mean (L.drop m) - Trd.mean (L.take h), Trd.mid (L.drop m) - Trd.mid (L.take h)⟩ := by
  unfold Trd.line
  rw [if_neg (by omega), if_neg (by omega), e, show (m + h) / 2 = h by omega, show m + h - h = m by omega]
theorem Trd.line_good {L : List Samp} (hs : Ser.Sorted L) (hg : ∀ a ∈ L, a.Good) : (Trd.line L).In ∧ (0 < L.length → 1 ≤ (Trd.line L).run) := by
  by_cases e0 : L.length = 0
  · have e : Trd.line L = ⟨0, 0, 0, 0⟩ := if_pos e0
    rw [e]
    exact ⟨by unfold Lin.In I64; simp, fun h => by omega⟩
  · by_cases e1 : L.length = 1
    · have e : Trd.line L = ⟨(L[0]?.getD default).tick, (L[0]?.getD default).val, 0, 1⟩ := by unfold Trd.line; rw [if_neg e0, if_pos e1]
      have := hg (L[0]?.getD default) (by rw [List.getElem?_eq_getElem (by omega)]; exact List.getElem_mem _)
      rw [e]
      exact ⟨⟨this.1.1, this.1.2, by show I64 0; unfold I64; omega, by show I64 1; unfold I64; omega⟩, fun _ => Int.le_refl _⟩
    · obtain ⟨a1, d1, a2, d2, g1, g2, g3, g4, g5, g6⟩ := Trd.parts hs hg (m := L.length - L.length / 2) (h := L.length / 2) (by omega) (by omega) (by omega)
      have m1 := Trd.mid_of g1 g2
      have m2 := Trd.mid_of g3 g4
      have b1 := Trd.mean_bd (L.drop (L.length - L.length / 2))
      have b2 := Trd.mean_bd (L.take (L.length / 2))
      rw [Trd.line_some (m := L.length - L.length / 2) (h := L.length / 2) (by omega) (by omega) (by omega) (by omega)]
      rw [m1, m2]
      generalize Trd.mean (L.drop (L.length - L.length / 2)) = z1 at b1
      generalize Trd.mean (L.take (L.length / 2)) = z2 at b2
      clear m1 m2 g1 g2 g3 g4
      refine ⟨⟨?_, ?_, ?_, ?_⟩, fun _ => ?_⟩
      · show I64 ((a2 : Int) + (d2 / 2 : Nat)); unfold I64; omega
      · show I64 z1; unfold I64; omega
      · show I64 (z1 - z2); unfold I64; omega
      · show I64 ((a2 : Int) + (d2 / 2 : Nat) - ((a1 : Int) + (d1 / 2 : Nat))); unfold I64; omega
      · show (1 : Int) ≤ (a2 : Int) + (d2 / 2 : Nat) - ((a1 : Int) + (d1 / 2 : Nat)); omega

theorem trend_samples (p : Option Addr) (cap : Nat) (l : List Samp) (hb : l.length ≤ 100000) (w : World) (hs : Samps w p l) :
    Calls Try.prog 88 #[.slice p l.length cap] w fun e w' => ∃ s v, e = .returned (.pointer (some ⟨s, 0, none⟩)) ∧ SerAt w' w.heap.size s v 256 (Ser.of 256 l l.length) ∧ Below w.heap.size w w' := by
  have H := Lib.hid (show Calls Try.prog 45 #[.int .i64 256, .slice p l.length cap] w _ from ser_of p cap l hb 256 (by omega) (by omega) w hs)
  obtain ⟨n, en⟩ : ∃ n, n = l.length := ⟨_, rfl⟩
  rw [← en] at H ⊢
  clear hs hb en
  go_enter Try.func88, Try.ntmps88
  go_wp2_with fail
  (with_reducible refine H.out.mono ?_)
  rintro e w1 ⟨s, v, rfl, h1, h2⟩
  go_wp2
  go_ret
  exact ⟨s, v, rfl, h1, h2⟩

theorem trend_of_size : (Try.prog.info? 95).map (·.size) = some 4 := by kernel_rfl
set_option maxHeartbeats 4000000 in
set_option maxRecDepth 100000 in
theorem trend_of (p : Option Addr) (cap : Nat) (l : List Samp) (hl : ∀ a ∈ l, a.In) (hb : l.length ≤ 100000) (w : World) (hs : Samps w p l) :
    Calls Try.prog 53 #[.slice p l.length cap] w fun e w' => e = .returned (.tuple #[.agg (Trd.line (Ser.of 256 l l.length)).row, .bool (decide (0 < (Ser.of 256 l l.length).length))]) ∧ Below w.heap.size w w' := by
  have G1 := Lib.hid (fun W : World => fun h : Samps W p l => trend_samples p cap l hb W h)
  have HS := Lib.hid hs
  have hgood := Ser.of_good 256 l hl l.length (Nat.le_refl _)
  have hsort := Ser.of_sorted 256 l l.length (Nat.le_refl _)
  have hlen := Ser.of_length (room := 256) (by omega) l l.length (Nat.le_refl _)
  obtain ⟨L, eL⟩ : ∃ L, L = Ser.of 256 l l.length := ⟨_, rfl⟩
  rw [← eL] at hgood hsort hlen ⊢
  simp only [← eL] at G1
  obtain ⟨n, en⟩ : ∃ n, n = l.length := ⟨_, rfl⟩
  rw [← en] at hb G1 ⊢
  have M0 : Hid (Mem w (w.alloc (.cells #[.int .i64 0, .int .i64 0, .int .i64 0, .int .i64 0] 95)) [(w.heap.size, .cells #[.int .i64 0, .int .i64 0, .int .i64 0, .int .i64 0] 95)]) := (Mem.start w).alloc _
  have HL := Lib.hid (And.intro hgood (And.intro hsort hlen))
  have hlen' : L.length ≤ 256 := hlen
  have HIN : Hid (∀ a ∈ L, a.In) := fun a ha => (hgood a ha).1
  clear hs hl en eL hgood hsort hlen
  by_cases e0 : L.length = 0
  · have HX : Hid (Trd.line L = ⟨0, 0, 0, 0⟩ ∧ decide (0 < L.length) = false) := ⟨if_pos e0, decide_eq_false (by omega)⟩
    rw [HX.out.1, HX.out.2]
    go_enter Try.func53, Try.ntmps53
    go_wp2_with fail
    (with_reducible refine (G1.out _ (HS.out.below M0.out.below)).mono ?_)
    rintro e w0 ⟨s, v, rfl, hser, hb0⟩
    have M00 := Lib.hid (M0.out.call hb0)
    have gl := ser_list hser
    rw [e0] at gl
    have GL := Lib.hid gl
    clear hser hb0 gl
    go_wp2_with fail
    (with_reducible refine GL.out.mono ?_)
    rintro e w1 ⟨q, c, rfl, hc, hsa, hb1⟩
    have M1 := Lib.hid (M00.out.call hb1)
    clear GL M00
    have K1 := Lib.hid (M1.out.heap 0 rfl)
    clear hc hsa hb1 M0 G1
    go_wp2_with ((with_reducible refine wpList_store_rowAs rfl 95 _ _ rfl (w.heap.size) #[.int .i64 0, .int .i64 0, .int .i64 0, .int .i64 0] ?_ ?_ 95 #[.int .i64 0, .int .i64 0, .int .i64 0, .int .i64 0] 4 ?_ (by kernel_rfl) rfl rfl (by simp [Value.oneCell']) ?_); exact rfl; exact rfl; exact K1.out)
    exact bodyPost_ret (results_row_tmp rfl _ _ w.heap.size 95 #[.int .i64 0, .int .i64 0, .int .i64 0, .int .i64 0] (0, 0) _ 4 _ rfl rfl ((M1.out.setRow 0 rfl).heap 0 rfl) Try.underlying95 rfl trend_of_size rfl) rfl ⟨rfl, (M1.out.setRow 0 rfl).below⟩
  by_cases e1 : L.length = 1
  · have HX : Hid (Trd.line L = ⟨(L[0]?.getD default).tick, (L[0]?.getD default).val, 0, 1⟩ ∧ decide (0 < L.length) = true) := ⟨by show Trd.line L = _; unfold Trd.line; rw [if_neg e0, if_pos e1], decide_eq_true (by omega)⟩
    rw [HX.out.1, HX.out.2]
    have CC : Hid (∀ (W : World) (q : Option Addr), Samps W q L → ∃ b off, q = some ⟨b, off, none⟩ ∧ b < W.heap.size ∧ W.cell? ⟨b, off, none⟩ = some (.int .i64 (L[0]?.getD default).tick) ∧ W.cell? ⟨b, off + 1, none⟩ = some (.int .i64 (L[0]?.getD default).val)) := fun W q h => by
      have := h.cells 0 (by omega)
      rwa [Nat.zero_mul] at this
    obtain ⟨⟨x0, x1⟩, ex⟩ : ∃ x, x = L[0]?.getD default := ⟨_, rfl⟩
    rw [← ex] at CC
    simp only [← ex]
    clear ex e0 HX
    go_enter Try.func53, Try.ntmps53
    go_wp2_with fail
    (with_reducible refine (G1.out _ (HS.out.below M0.out.below)).mono ?_)
    rintro e w0 ⟨s, v, rfl, hser, hb0⟩
    have M00 := Lib.hid (M0.out.call hb0)
    have gl := ser_list hser
    rw [e1] at gl
    have GL := Lib.hid gl
    clear hser hb0 gl
    go_wp2_with fail
    (with_reducible refine GL.out.mono ?_)
    rintro e w1 ⟨q, c, rfl, hc, hsa, hb1⟩
    have M1 := Lib.hid (M00.out.call hb1)
    clear GL M00
    obtain ⟨b, off, rfl, hbw, _, _⟩ := CC.out w1 q hsa
    have SA := Lib.hid hsa
    have HCC : Hid (∀ W : World, Samps W (some ⟨b, off, none⟩) L → W.cell? ⟨b, off, none⟩ = some (.int .i64 x0) ∧ W.cell? ⟨b, off + 1, none⟩ = some (.int .i64 x1)) := fun W h => by
      obtain ⟨b', off', e, _, c0, c1⟩ := CC.out W _ h
      simp only [Option.some.injEq, Addr.mk.injEq, and_true] at e
      obtain ⟨rfl, rfl⟩ := e
      exact ⟨c0, c1⟩
    have hst := stab_and (stab_mem (w := w) (bs := [(w.heap.size, .cells #[.int .i64 0, .int .i64 0, .int .i64 0, .int .i64 0] 95)])) (stab_sampsS (q := some ⟨b, off, none⟩) (l := L))
    clear hsa hb1 M0 G1 CC hbw
    go_wp2_with fail
    refine wp_region_E mixed [9] hst ⟨M1.out.drewN 1, SA.out.below (below_drew (Below.refl _ _))⟩ ?_
    refine wpAnyE_take 0 rfl (by kernel_rfl) (by kernel_rfl) (by kernel_rfl) (fun _ _ _ h => h) hst (EffB.pure rfl (fun _ => rfl)) (.inr (EffB.pure rfl (fun _ => rfl))) ?_
    simp only [act_norm]
    refine wpAnyE_take 1 (v := .pointer (some ⟨b, off, none⟩)) rfl (by kernel_rfl) (by kernel_rfl) (by kernel_rfl) (fun _ _ _ h => h) hst (EffB.run rfl rfl (fun wd hS => ?_)) (.inr (EffB.run rfl rfl (fun wd hS => ?_))) ?_
    · (go_wp2; exact ⟨rfl, Below.refl _ _⟩)
    · (go_wp2; exact ⟨rfl, Below.refl _ _⟩)
    simp only [act_norm]
    refine wpAnyE_take 2 (v := .pointer (some ⟨b, off, none⟩)) rfl (by kernel_rfl) (by kernel_rfl) (by kernel_rfl) (fun _ _ _ h => h) hst (EffB.run rfl rfl (fun wd hS => ?_)) (.inr (EffB.run rfl rfl (fun wd hS => ?_))) ?_
    · (go_wp2; exact ⟨rfl, Below.refl _ _⟩)
    · (go_wp2; exact ⟨rfl, Below.refl _ _⟩)
    simp only [act_norm]
    refine wpAnyE_take 3 (v := .int .i64 x0) rfl (by kernel_rfl) (by kernel_rfl) (by kernel_rfl) (fun _ _ _ h => h) hst (EffB.run rfl rfl (fun wd hS => ?_)) (.inl (by kernel_rfl)) ?_
    · obtain ⟨c0, c1⟩ := HCC.out wd hS.2; go_wp2; exact ⟨rfl, Below.refl _ _⟩
    simp only [act_norm]
    refine wpAnyE_take 4 rfl (by kernel_rfl) (by kernel_rfl) (by kernel_rfl) (fun _ _ _ h => h) hst (EffB.pure rfl (fun _ => rfl)) (.inr (EffB.pure rfl (fun _ => rfl))) ?_
    simp only [act_norm]
    refine wpAnyE_take 5 (v := .pointer (some ⟨b, off, none⟩)) rfl (by kernel_rfl) (by kernel_rfl) (by kernel_rfl) (fun _ _ _ h => h) hst (EffB.run rfl rfl (fun wd hS => ?_)) (.inr (EffB.run rfl rfl (fun wd hS => ?_))) ?_
    · (go_wp2; exact ⟨rfl, Below.refl _ _⟩)
    · (go_wp2; exact ⟨rfl, Below.refl _ _⟩)
    simp only [act_norm]
    refine wpAnyE_take 6 (v := .pointer (some ⟨b, off + 1, none⟩)) rfl (by kernel_rfl) (by kernel_rfl) (by kernel_rfl) (fun _ _ _ h => h) hst (EffB.run rfl rfl (fun wd hS => ?_)) (.inr (EffB.run rfl rfl (fun wd hS => ?_))) ?_
    · (go_wp2; exact ⟨rfl, Below.refl _ _⟩)
    · (go_wp2; exact ⟨rfl, Below.refl _ _⟩)
    simp only [act_norm]
    refine wpAnyE_take 7 (v := .int .i64 x1) rfl (by kernel_rfl) (by kernel_rfl) (by kernel_rfl) (fun _ _ _ h => h) hst (EffB.run rfl rfl (fun wd hS => ?_)) (.inl (by kernel_rfl)) ?_
    · obtain ⟨c0, c1⟩ := HCC.out wd hS.2; go_wp2; exact ⟨rfl, Below.refl _ _⟩
    simp only [act_norm]
    refine wpAnyE_take 8 (v := .agg #[.int .i64 x0, .int .i64 x1, .int .i64 0, .int .i64 1]) rfl (by kernel_rfl) (by kernel_rfl) (by kernel_rfl) (fun _ _ _ h => h) hst (EffB.run rfl rfl (fun wd hS => ?_)) (.inr (EffB.run rfl rfl (fun wd hS => ?_))) ?_
    · (go_wp2; exact ⟨rfl, Below.refl _ _⟩)
    · (go_wp2; exact ⟨rfl, Below.refl _ _⟩)
    simp only [act_norm]
    refine wpAnyE_one 9 rfl (by kernel_rfl) rfl (fun wd hS => ?_)
    have hst2 := stab_mem (w := w) (bs := [(w.heap.size, .cells #[.int .i64 x0, .int .i64 x1, .int .i64 0, .int .i64 1] 95)])
    refine wp_store_row 95 _ _ rfl w.heap.size #[.int .i64 x0, .int .i64 x1, .int .i64 0, .int .i64 1] rfl rfl 95 #[.int .i64 0, .int .i64 0, .int .i64 0, .int .i64 0] (hS.1.heap 0 rfl) trend_of_size rfl (by simp [Value.oneCell']) ?_
    refine ⟨_, hS.1.setRow 0 rfl, hst2, .inl (by decide), ?_⟩
    clear hS hst
    have hst := hst2
    try simp only [act_norm]
    refine wpAnyE_take 10 rfl (by kernel_rfl) (by kernel_rfl) (by kernel_rfl) (fun _ _ _ h => h) hst (EffB.pure rfl (fun _ => rfl)) (.inr (EffB.pure rfl (fun _ => rfl))) ?_
    simp only [act_norm]
    refine wpAnyE_done (by kernel_rfl) (fun wd hS => ?_) _
    have MF := Lib.hid hS
    clear hS
    go_wp2
    exact bodyPost_ret (results_row_tmp rfl _ _ w.heap.size 95 #[.int .i64 x0, .int .i64 x1, .int .i64 0, .int .i64 1] (0, 0) _ 4 _ rfl rfl (MF.out.heap 0 rfl) Try.underlying95 rfl trend_of_size rfl) rfl ⟨rfl, MF.out.below⟩
  obtain ⟨m, h, emh, h1, h2, h3⟩ : ∃ m h, L.length = m + h ∧ 1 ≤ h ∧ h ≤ m ∧ m ≤ h + 1 := ⟨L.length - L.length / 2, L.length / 2, by omega, by omega, by omega, by omega⟩
  have HX : Hid (Trd.line L = ⟨Trd.mid (L.drop m), Trd.mean (L.drop m), Trd.mean (L.drop m) - Trd.mean (L.take h), Trd.mid (L.drop m) - Trd.mid (L.take h)⟩ ∧ decide (0 < L.length) = true) := ⟨Trd.line_some emh h1 h2 h3, decide_eq_true (by omega)⟩
  rw [HX.out.1, HX.out.2]
  obtain ⟨a1, d1, a2, d2, g1, g2, g3, g4, g5, g6⟩ := Trd.parts HL.out.2.1 HL.out.1 emh h1 h2
  have lt : (L.take h).length = h := by rw [List.length_take]; omega
  have ld : (L.drop m).length = h := by rw [List.length_drop]; omega
  have m1 := Trd.mid_of g1 g2
  have m2 := Trd.mid_of g3 g4
  have f1 := fun (q : Option Addr) (c : Nat) (W : World) (hh : Samps W q (L.drop m)) => trend_middle q c (L.drop m) (by omega) (by omega) a2 d2 g3 g4 g6 W hh
  have f2 := fun (q : Option Addr) (c : Nat) (W : World) (hh : Samps W q (L.take h)) => trend_middle q c (L.take h) (by omega) (by omega) a1 d1 g1 g2 (by omega) W hh
  have hin1 : ∀ a ∈ L.drop m, a.In := fun a ha => HIN.out a (List.mem_of_mem_drop ha)
  have hin2 : ∀ a ∈ L.take h, a.In := fun a ha => HIN.out a (List.mem_of_mem_take ha)
  obtain ⟨s1, es1⟩ : ∃ s, s = Stat.of (Samp.vals (L.drop m)) := ⟨_, rfl⟩
  obtain ⟨s2, es2⟩ : ∃ s, s = Stat.of (Samp.vals (L.take h)) := ⟨_, rfl⟩
  have f3 := fun (q : Option Addr) (c : Nat) (W : World) (hh : Samps W q (L.drop m)) => window_of q c (L.drop m) hin1 (by omega) s1 es1 W hh
  have f4 := fun (q : Option Addr) (c : Nat) (W : World) (hh : Samps W q (L.take h)) => window_of q c (L.take h) hin2 (by omega) s2 es2 W hh
  have ez1 : Trd.mean (L.drop m) = s1.mean := by unfold Trd.mean; rw [← es1]
  have ez2 : Trd.mean (L.take h) = s2.mean := by unfold Trd.mean; rw [← es2]
  clear es1 es2
  obtain ⟨p1, p2, p3, p4, z1⟩ := s1
  obtain ⟨q1, q2, q3, q4, z2⟩ := s2
  simp only at f3 f4 ez1 ez2
  have b1 := Trd.mean_bd (L.drop m)
  have b2 := Trd.mean_bd (L.take h)
  obtain ⟨y1, ey1⟩ : ∃ y, y = Trd.mid (L.drop m) := ⟨_, rfl⟩
  obtain ⟨y2, ey2⟩ : ∃ y, y = Trd.mid (L.take h) := ⟨_, rfl⟩
  simp only [ez1] at b1
  simp only [ez2] at b2
  simp only [ez1, ez2]
  rw [← ey1] at m2
  rw [← ey2] at m1
  simp only [← ey1, ld] at f1
  simp only [← ey2, lt] at f2
  simp only [ld] at f3
  simp only [lt] at f4
  simp only [← ey1, ← ey2]
  obtain ⟨E, eE⟩ : ∃ E, E = L.take h := ⟨_, rfl⟩
  obtain ⟨D, eD⟩ : ∃ D, D = L.drop m := ⟨_, rfl⟩
  simp only [← eE] at f2 f4
  simp only [← eD] at f1 f3
  have SE : Hid (∀ (W : World) (b off : Nat), Samps W (some ⟨b, off, none⟩) L → Samps W (some ⟨b, off, none⟩) E) := fun W b off hh => eE ▸ hh.takeN h
  have SD : Hid (∀ (W : World) (b off : Nat), Samps W (some ⟨b, off, none⟩) L → Samps W (some ⟨b, off + m * 2, none⟩) D) := fun W b off hh => eD ▸ hh.dropN m
  have HP : Hid (∀ (W : World) (q : Option Addr), Samps W q L → ∃ b off, q = some ⟨b, off, none⟩) := fun W q hh => by
    obtain ⟨b, off, e, _⟩ := hh.cells 0 (by omega)
    exact ⟨b, off, e⟩
  have F1 := Lib.hid f1
  have F2 := Lib.hid f2
  have F3 := Lib.hid f3
  have F4 := Lib.hid f4
  have y1b : 0 ≤ y1 ∧ y1 ≤ 9223372036854775807 := by omega
  have y2b : 0 ≤ y2 ∧ y2 ≤ 9223372036854775807 := by omega
  have eqi : ((m : Int) + h) / 2 = (h : Int) := by omega
  rw [emh] at hlen'
  clear f1 f2 f3 f4 m1 m2 g1 g2 g3 g4 g5 g6 lt ld eE eD ey1 ey2 ez1 ez2 e0 e1 HX HL HIN
  go_enter Try.func53, Try.ntmps53
  go_wp2_with fail
  (with_reducible refine (G1.out _ (HS.out.below M0.out.below)).mono ?_)
  rintro e w0 ⟨s, v, rfl, hser, hb0⟩
  have M00 := Lib.hid (M0.out.call hb0)
  have gl := ser_list hser
  rw [emh] at gl
  have GL := Lib.hid gl
  clear hser hb0 gl
  go_wp2_with fail
  (with_reducible refine GL.out.mono ?_)
  rintro e w1 ⟨q, c, rfl, hc, hsa, hb1⟩
  have M1 := Lib.hid (M00.out.call hb1)
  clear GL M00
  obtain ⟨b, off, rfl⟩ := HP.out w1 q hsa
  have SA := Lib.hid hsa
  have hc2 : m + h ≤ c := hc
  have n0 : ¬ ((m : Int) + h = 0) := by omega
  have n1 : ¬ ((m : Int) + h = 1) := by omega
  clear hsa hb1 M0 G1 HP hc
  go_wp2_with fail
  go_quiet (fail)
  have M2 := Lib.hid (M1.out.drewN nq)
  have SA2 := Lib.hid (SA.out.below (below_drewN (Below.refl _ _) nq))
  clear M1 SA
  go_wp2_with fail
  (with_reducible refine (F1.out _ _ _ (SD.out _ b off SA2.out)).mono ?_)
  rintro e w3 ⟨rfl, hb3⟩
  have M3 := Lib.hid (M2.out.call hb3)
  have SA3 := Lib.hid (SA2.out.below hb3)
  clear hb3 M2 SA2 F1
  go_wp2_with fail
  (with_reducible refine (F3.out _ _ _ (SD.out _ b off SA3.out)).mono ?_)
  rintro e w4 ⟨rfl, hb4⟩
  have M4 := Lib.hid ((M3.out.call hb4).alloc (.cells #[.int .i64 y1, .int .i64 z1, .int .i64 0, .int .i64 0] 95))
  have SA4 := Lib.hid ((SA3.out.below hb4).below (below1 w4 (.cells #[.int .i64 y1, .int .i64 z1, .int .i64 0, .int .i64 0] 95)))
  obtain ⟨Y, hY⟩ : ∃ Y, w4.heap.size = Y := ⟨_, rfl⟩
  have HNE : Hid (b ≠ Y) := by
    show _ ≠ _
    have := SA3.out.lt (by omega)
    have := hb4.size
    omega
  clear hb4 M3 SA3 F3
  have hfld := trd_field4
  go_wp2_with fail
  rw [hY] at M4
  try rw [hY]
  have hst := stab_and (stab_mem (w := w) (bs := [(w.heap.size, .cells #[.int .i64 0, .int .i64 0, .int .i64 0, .int .i64 0] 95), (Y, .cells #[.int .i64 y1, .int .i64 z1, .int .i64 0, .int .i64 0] 95)])) (stab_sampsS (q := some ⟨b, off, none⟩) (l := L))
  refine wp_region_E mixed [7] hst ⟨M4.out.drewN 1, SA4.out.below (below_drew (Below.refl _ _))⟩ ?_
  clear hY SA4 M4
  refine wpAnyE_take 0 (v := .pointer (some ⟨Y, 1, none⟩)) rfl (by kernel_rfl) (by kernel_rfl) (by kernel_rfl) (fun _ _ _ h => h) hst (EffB.run rfl rfl (fun wd hS => ?_)) (.inr (EffB.run rfl rfl (fun wd hS => ?_))) ?_
  · (go_wp2; exact ⟨rfl, Below.refl _ _⟩)
  · (go_wp2; exact ⟨rfl, Below.refl _ _⟩)
  simp only [act_norm]
  refine wpAnyE_take 1 (v := .int .i64 z1) rfl (by kernel_rfl) (by kernel_rfl) (by kernel_rfl) (fun _ _ _ h => h) hst (EffB.run rfl rfl (fun wd hS => ?_)) (.inl (by kernel_rfl)) ?_
  · (have c2 : wd.cell? ⟨Y, 1, none⟩ = some (.int .i64 z1) := by rw [cell_of_row _ _ _ _ _ _ (hS.1.heap 1 rfl)]; rfl); go_wp2; exact ⟨rfl, Below.refl _ _⟩
  simp only [act_norm]
  refine wpAnyE_take 2 rfl (by kernel_rfl) (by kernel_rfl) (by kernel_rfl) (fun _ _ _ h => h) hst (EffB.pure rfl (fun _ => rfl)) (.inr (EffB.pure rfl (fun _ => rfl))) ?_
  simp only [act_norm]
  refine wpAnyE_take 3 (v := .agg #[.int .i64 q1, .int .i64 q2, .int .i64 q3, .int .i64 q4, .int .i64 z2]) rfl (by kernel_rfl) (by kernel_rfl) (by kernel_rfl) (fun _ _ _ h => h) hst (EffB.run rfl rfl (fun wd hS => ?_)) (.inl (by kernel_rfl)) ?_
  · (go_wp2_with fail; (with_reducible refine (F4.out _ _ wd (SE.out wd b off hS.2)).mono ?_); rintro e w'' ⟨rfl, hb⟩; exact ⟨rfl, hb⟩)
  simp only [act_norm]
  refine wpAnyE_take 4 (v := .int .i64 z2) rfl (by kernel_rfl) (by kernel_rfl) (by kernel_rfl) (fun _ _ _ h => h) hst (EffB.run rfl rfl (fun wd hS => ?_)) (.inr (EffB.run rfl rfl (fun wd hS => ?_))) ?_
  · (go_wp2; exact ⟨rfl, Below.refl _ _⟩)
  · (go_wp2; exact ⟨rfl, Below.refl _ _⟩)
  simp only [act_norm]
  refine wpAnyE_take 5 (v := .int .i64 (z1 - z2)) rfl (by kernel_rfl) (by kernel_rfl) (by kernel_rfl) (fun _ _ _ h => h) hst (EffB.run rfl rfl (fun wd hS => ?_)) (.inr (EffB.run rfl rfl (fun wd hS => ?_))) ?_
  · (go_wp2; exact ⟨rfl, Below.refl _ _⟩)
  · (go_wp2; exact ⟨rfl, Below.refl _ _⟩)
  simp only [act_norm]
  refine wpAnyE_take 6 (v := .pointer (some ⟨Y, 2, none⟩)) rfl (by kernel_rfl) (by kernel_rfl) (by kernel_rfl) (fun _ _ _ h => h) hst (EffB.run rfl rfl (fun wd hS => ?_)) (.inr (EffB.run rfl rfl (fun wd hS => ?_))) ?_
  · (go_wp2; exact ⟨rfl, Below.refl _ _⟩)
  · (go_wp2; exact ⟨rfl, Below.refl _ _⟩)
  simp only [act_norm]
  refine wpAnyE_one 7 rfl (by kernel_rfl) rfl (fun wd hS => ?_)
  have fr1 := hS.1.free 1 2 rfl
  have k1 := hS.1.cell 1 2 rfl rfl
  have hst2 := stab_and (stab_mem (w := w) (bs := [(w.heap.size, .cells #[.int .i64 0, .int .i64 0, .int .i64 0, .int .i64 0] 95), (Y, .cells #[.int .i64 y1, .int .i64 z1, .int .i64 (z1 - z2), .int .i64 0] 95)])) (stab_sampsS (q := some ⟨b, off, none⟩) (l := L))
  have MS := Lib.hid (And.intro (hS.1.setCell 1 2 (.int .i64 (z1 - z2)) rfl) (hS.2.setOther (Y := Y) (j := 2) (v := .int .i64 (z1 - z2)) HNE.out))
  clear hS hst
  go_wp2
  refine ⟨_, MS.out, hst2, ?_⟩
  clear MS fr1 k1
  have hst := hst2
  clear hst2
  try simp only [act_norm]
  refine wpAnyE_done (by kernel_rfl) (fun wd hS => ?_) _
  have MT := Lib.hid hS
  clear hS hst F4
  go_wp2_with fail
  have hst := stab_and (stab_mem (w := w) (bs := [(w.heap.size, .cells #[.int .i64 0, .int .i64 0, .int .i64 0, .int .i64 0] 95), (Y, .cells #[.int .i64 y1, .int .i64 z1, .int .i64 (z1 - z2), .int .i64 0] 95)])) (stab_sampsS (q := some ⟨b, off, none⟩) (l := L))
  refine wp_region_E mixed [6] hst ⟨MT.out.1.drewN 1, MT.out.2.below (below_drew (Below.refl _ _))⟩ ?_
  clear MT
  refine wpAnyE_take 0 (v := .pointer (some ⟨Y, 0, none⟩)) rfl (by kernel_rfl) (by kernel_rfl) (by kernel_rfl) (fun _ _ _ h => h) hst (EffB.run rfl rfl (fun wd hS => ?_)) (.inr (EffB.run rfl rfl (fun wd hS => ?_))) ?_
  · (go_wp2; exact ⟨rfl, Below.refl _ _⟩)
  · (go_wp2; exact ⟨rfl, Below.refl _ _⟩)
  simp only [act_norm]
  refine wpAnyE_take 1 (v := .int .i64 y1) rfl (by kernel_rfl) (by kernel_rfl) (by kernel_rfl) (fun _ _ _ h => h) hst (EffB.run rfl rfl (fun wd hS => ?_)) (.inl (by kernel_rfl)) ?_
  · (have c2 : wd.cell? ⟨Y, 0, none⟩ = some (.int .i64 y1) := by rw [cell_of_row _ _ _ _ _ _ (hS.1.heap 1 rfl)]; rfl); go_wp2; exact ⟨rfl, Below.refl _ _⟩
  simp only [act_norm]
  refine wpAnyE_take 2 rfl (by kernel_rfl) (by kernel_rfl) (by kernel_rfl) (fun _ _ _ h => h) hst (EffB.pure rfl (fun _ => rfl)) (.inr (EffB.pure rfl (fun _ => rfl))) ?_
  simp only [act_norm]
  refine wpAnyE_take 3 (v := .int .i64 y2) rfl (by kernel_rfl) (by kernel_rfl) (by kernel_rfl) (fun _ _ _ h => h) hst (EffB.run rfl rfl (fun wd hS => ?_)) (.inl (by kernel_rfl)) ?_
  · (go_wp2_with fail; (with_reducible refine (F2.out _ _ wd (SE.out wd b off hS.2)).mono ?_); rintro e w'' ⟨rfl, hb⟩; exact ⟨rfl, hb⟩)
  simp only [act_norm]
  refine wpAnyE_take 4 (v := .int .i64 (y1 - y2)) rfl (by kernel_rfl) (by kernel_rfl) (by kernel_rfl) (fun _ _ _ h => h) hst (EffB.run rfl rfl (fun wd hS => ?_)) (.inr (EffB.run rfl rfl (fun wd hS => ?_))) ?_
  · (go_wp2; exact ⟨rfl, Below.refl _ _⟩)
  · (go_wp2; exact ⟨rfl, Below.refl _ _⟩)
  simp only [act_norm]
  refine wpAnyE_take 5 (v := .pointer (some ⟨Y, 3, none⟩)) rfl (by kernel_rfl) (by kernel_rfl) (by kernel_rfl) (fun _ _ _ h => h) hst (EffB.run rfl rfl (fun wd hS => ?_)) (.inr (EffB.run rfl rfl (fun wd hS => ?_))) ?_
  · (go_wp2; exact ⟨rfl, Below.refl _ _⟩)
  · (go_wp2; exact ⟨rfl, Below.refl _ _⟩)
  simp only [act_norm]
  refine wpAnyE_one 6 rfl (by kernel_rfl) rfl (fun wd hS => ?_)
  have fr1 := hS.1.free 1 3 rfl
  have k1 := hS.1.cell 1 3 rfl rfl
  have hst2 := stab_and (stab_mem (w := w) (bs := [(w.heap.size, .cells #[.int .i64 0, .int .i64 0, .int .i64 0, .int .i64 0] 95), (Y, .cells #[.int .i64 y1, .int .i64 z1, .int .i64 (z1 - z2), .int .i64 (y1 - y2)] 95)])) (stab_sampsS (q := some ⟨b, off, none⟩) (l := L))
  have MS := Lib.hid (And.intro (hS.1.setCell 1 3 (.int .i64 (y1 - y2)) rfl) (hS.2.setOther (Y := Y) (j := 3) (v := .int .i64 (y1 - y2)) HNE.out))
  clear hS hst
  go_wp2
  refine ⟨_, MS.out, hst2, ?_⟩
  clear MS fr1 k1
  have hst := hst2
  clear hst2
  try simp only [act_norm]
  refine wpAnyE_done (by kernel_rfl) (fun wd hS => ?_) _
  have MT := Lib.hid hS.1
  have K0 := Lib.hid (hS.1.heap 0 rfl)
  have K1 := Lib.hid (hS.1.heap 1 rfl)
  clear hS hst F2
  go_wp2_with (first | ((with_reducible refine wpList_load_rowAs rfl 95 _ rfl (Y) ?_ 95 #[.int .i64 y1, .int .i64 z1, .int .i64 (z1 - z2), .int .i64 (y1 - y2)] (0, 0) _ 4 ?_ Try.underlying95 rfl (by kernel_rfl) ?_ ?_); exact rfl; exact K1.out; exact rfl) | ((with_reducible refine wpList_store_rowAs rfl 95 _ _ rfl (w.heap.size) #[.int .i64 y1, .int .i64 z1, .int .i64 (z1 - z2), .int .i64 (y1 - y2)] ?_ ?_ 95 #[.int .i64 0, .int .i64 0, .int .i64 0, .int .i64 0] 4 ?_ (by kernel_rfl) rfl rfl (by simp [Value.oneCell']) ?_); exact rfl; exact rfl; exact K0.out))
  have MF := Lib.hid (MT.out.setRow 0 (cs := #[.int .i64 y1, .int .i64 z1, .int .i64 (z1 - z2), .int .i64 (y1 - y2)]) rfl)
  exact bodyPost_ret (results_row_tmp rfl _ _ w.heap.size 95 #[.int .i64 y1, .int .i64 z1, .int .i64 (z1 - z2), .int .i64 (y1 - y2)] (0, 0) _ 4 _ rfl rfl (MF.out.heap 0 rfl) Try.underlying95 rfl trend_of_size rfl) rfl ⟨rfl, MF.out.below⟩

theorem ref52_of_size : (Try.prog.info? 94).map (·.size) = some 4 := by kernel_rfl
set_option maxHeartbeats 4000000 in
set_option maxRecDepth 100000 in
theorem ref52_of (p : Option Addr) (cap : Nat) (l : List Samp) (hl : ∀ a ∈ l, a.In) (hb : l.length ≤ 100000) (w : World) (hs : Samps w p l) :
    Calls Try.prog 54 #[.slice p l.length cap] w fun e w' => e = .returned (.tuple #[.agg (Trd.line (Ser.of 256 l l.length)).row, .bool (decide (0 < (Ser.of 256 l l.length).length))]) ∧ Below w.heap.size w w' := by
  have G1 := Lib.hid (fun W : World => fun h : Samps W p l => show Calls Try.prog 48 #[.int .i64 256, .slice p l.length cap] W _ from ref08_of p cap l hb 256 (by omega) (by omega) W h)
  have HS := Lib.hid hs
  have hgood := Ser.of_good 256 l hl l.length (Nat.le_refl _)
  have hsort := Ser.of_sorted 256 l l.length (Nat.le_refl _)
  have hlen := Ser.of_length (room := 256) (by omega) l l.length (Nat.le_refl _)
  obtain ⟨L, eL⟩ : ∃ L, L = Ser.of 256 l l.length := ⟨_, rfl⟩
  rw [← eL] at hgood hsort hlen ⊢
  simp only [← eL] at G1
  obtain ⟨n, en⟩ : ∃ n, n = l.length := ⟨_, rfl⟩
  rw [← en] at hb G1 ⊢
  have M0 : Hid (Mem w (w.alloc (.cells #[.int .i64 0, .int .i64 0, .int .i64 0, .int .i64 0] 94)) [(w.heap.size, .cells #[.int .i64 0, .int .i64 0, .int .i64 0, .int .i64 0] 94)]) := (Mem.start w).alloc _
  have HL := Lib.hid (And.intro hgood (And.intro hsort hlen))
  have hlen' : L.length ≤ 256 := hlen
  have HIN : Hid (∀ a ∈ L, a.In) := fun a ha => (hgood a ha).1
  clear hs hl en eL hgood hsort hlen
  by_cases e0 : L.length = 0
  · have HX : Hid (Trd.line L = ⟨0, 0, 0, 0⟩ ∧ decide (0 < L.length) = false) := ⟨if_pos e0, decide_eq_false (by omega)⟩
    rw [HX.out.1, HX.out.2]
    rw [e0] at G1
    go_enter Try.func54, Try.ntmps54
    go_wp2_with fail
    (with_reducible refine (G1.out _ (HS.out.below M0.out.below)).mono ?_)
    rintro e w1 ⟨q, c, rfl, hc, hsa, _, hb1⟩
    have M1 := Lib.hid (M0.out.call hb1)
    have K1 := Lib.hid (M1.out.heap 0 rfl)
    clear hc hsa hb1 M0 G1
    go_wp2_with ((with_reducible refine wpList_store_rowAs rfl 94 _ _ rfl (w.heap.size) #[.int .i64 0, .int .i64 0, .int .i64 0, .int .i64 0] ?_ ?_ 94 #[.int .i64 0, .int .i64 0, .int .i64 0, .int .i64 0] 4 ?_ (by kernel_rfl) rfl rfl (by simp [Value.oneCell']) ?_); exact rfl; exact rfl; exact K1.out)
    exact bodyPost_ret (results_row_tmp rfl _ _ w.heap.size 94 #[.int .i64 0, .int .i64 0, .int .i64 0, .int .i64 0] (0, 0) _ 4 _ rfl rfl ((M1.out.setRow 0 rfl).heap 0 rfl) Try.underlying94 rfl ref52_of_size rfl) rfl ⟨rfl, (M1.out.setRow 0 rfl).below⟩
  by_cases e1 : L.length = 1
  · have HX : Hid (Trd.line L = ⟨(L[0]?.getD default).tick, (L[0]?.getD default).val, 0, 1⟩ ∧ decide (0 < L.length) = true) := ⟨by show Trd.line L = _; unfold Trd.line; rw [if_neg e0, if_pos e1], decide_eq_true (by omega)⟩
    rw [HX.out.1, HX.out.2]
    have CC : Hid (∀ (W : World) (q : Option Addr), Samps W q L → ∃ b off, q = some ⟨b, off, none⟩ ∧ b < W.heap.size ∧ W.cell? ⟨b, off, none⟩ = some (.int .i64 (L[0]?.getD default).tick) ∧ W.cell? ⟨b, off + 1, none⟩ = some (.int .i64 (L[0]?.getD default).val)) := fun W q h => by
      have := h.cells 0 (by omega)
      rwa [Nat.zero_mul] at this
    obtain ⟨⟨x0, x1⟩, ex⟩ : ∃ x, x = L[0]?.getD default := ⟨_, rfl⟩
    rw [← ex] at CC
    simp only [← ex]
    rw [e1] at G1
    clear ex e0 HX
    go_enter Try.func54, Try.ntmps54
    go_wp2_with fail
    (with_reducible refine (G1.out _ (HS.out.below M0.out.below)).mono ?_)
    rintro e w1 ⟨q, c, rfl, hc, hsa, _, hb1⟩
    have M1 := Lib.hid (M0.out.call hb1)
    obtain ⟨b, off, rfl, hbw, _, _⟩ := CC.out w1 q hsa
    have SA := Lib.hid hsa
    have HCC : Hid (∀ W : World, Samps W (some ⟨b, off, none⟩) L → W.cell? ⟨b, off, none⟩ = some (.int .i64 x0) ∧ W.cell? ⟨b, off + 1, none⟩ = some (.int .i64 x1)) := fun W h => by
      obtain ⟨b', off', e, _, c0, c1⟩ := CC.out W _ h
      simp only [Option.some.injEq, Addr.mk.injEq, and_true] at e
      obtain ⟨rfl, rfl⟩ := e
      exact ⟨c0, c1⟩
    have hst := stab_and (stab_mem (w := w) (bs := [(w.heap.size, .cells #[.int .i64 0, .int .i64 0, .int .i64 0, .int .i64 0] 94)])) (stab_sampsS (q := some ⟨b, off, none⟩) (l := L))
    clear hsa hb1 M0 G1 CC hbw
    go_wp2_with fail
    refine wp_region_E mixed [9] hst ⟨M1.out.drewN 1, SA.out.below (below_drew (Below.refl _ _))⟩ ?_
    refine wpAnyE_take 0 rfl (by kernel_rfl) (by kernel_rfl) (by kernel_rfl) (fun _ _ _ h => h) hst (EffB.pure rfl (fun _ => rfl)) (.inr (EffB.pure rfl (fun _ => rfl))) ?_
    simp only [act_norm]
    refine wpAnyE_take 1 (v := .pointer (some ⟨b, off, none⟩)) rfl (by kernel_rfl) (by kernel_rfl) (by kernel_rfl) (fun _ _ _ h => h) hst (EffB.run rfl rfl (fun wd hS => ?_)) (.inr (EffB.run rfl rfl (fun wd hS => ?_))) ?_
    · (go_wp2; exact ⟨rfl, Below.refl _ _⟩)
    · (go_wp2; exact ⟨rfl, Below.refl _ _⟩)
    simp only [act_norm]
    refine wpAnyE_take 2 (v := .pointer (some ⟨b, off, none⟩)) rfl (by kernel_rfl) (by kernel_rfl) (by kernel_rfl) (fun _ _ _ h => h) hst (EffB.run rfl rfl (fun wd hS => ?_)) (.inr (EffB.run rfl rfl (fun wd hS => ?_))) ?_
    · (go_wp2; exact ⟨rfl, Below.refl _ _⟩)
    · (go_wp2; exact ⟨rfl, Below.refl _ _⟩)
    simp only [act_norm]
    refine wpAnyE_take 3 (v := .int .i64 x0) rfl (by kernel_rfl) (by kernel_rfl) (by kernel_rfl) (fun _ _ _ h => h) hst (EffB.run rfl rfl (fun wd hS => ?_)) (.inl (by kernel_rfl)) ?_
    · obtain ⟨c0, c1⟩ := HCC.out wd hS.2; go_wp2; exact ⟨rfl, Below.refl _ _⟩
    simp only [act_norm]
    refine wpAnyE_take 4 rfl (by kernel_rfl) (by kernel_rfl) (by kernel_rfl) (fun _ _ _ h => h) hst (EffB.pure rfl (fun _ => rfl)) (.inr (EffB.pure rfl (fun _ => rfl))) ?_
    simp only [act_norm]
    refine wpAnyE_take 5 (v := .pointer (some ⟨b, off, none⟩)) rfl (by kernel_rfl) (by kernel_rfl) (by kernel_rfl) (fun _ _ _ h => h) hst (EffB.run rfl rfl (fun wd hS => ?_)) (.inr (EffB.run rfl rfl (fun wd hS => ?_))) ?_
    · (go_wp2; exact ⟨rfl, Below.refl _ _⟩)
    · (go_wp2; exact ⟨rfl, Below.refl _ _⟩)
    simp only [act_norm]
    refine wpAnyE_take 6 (v := .pointer (some ⟨b, off + 1, none⟩)) rfl (by kernel_rfl) (by kernel_rfl) (by kernel_rfl) (fun _ _ _ h => h) hst (EffB.run rfl rfl (fun wd hS => ?_)) (.inr (EffB.run rfl rfl (fun wd hS => ?_))) ?_
    · (go_wp2; exact ⟨rfl, Below.refl _ _⟩)
    · (go_wp2; exact ⟨rfl, Below.refl _ _⟩)
    simp only [act_norm]
    refine wpAnyE_take 7 (v := .int .i64 x1) rfl (by kernel_rfl) (by kernel_rfl) (by kernel_rfl) (fun _ _ _ h => h) hst (EffB.run rfl rfl (fun wd hS => ?_)) (.inl (by kernel_rfl)) ?_
    · obtain ⟨c0, c1⟩ := HCC.out wd hS.2; go_wp2; exact ⟨rfl, Below.refl _ _⟩
    simp only [act_norm]
    refine wpAnyE_take 8 (v := .agg #[.int .i64 x0, .int .i64 x1, .int .i64 0, .int .i64 1]) rfl (by kernel_rfl) (by kernel_rfl) (by kernel_rfl) (fun _ _ _ h => h) hst (EffB.run rfl rfl (fun wd hS => ?_)) (.inr (EffB.run rfl rfl (fun wd hS => ?_))) ?_
    · (go_wp2; exact ⟨rfl, Below.refl _ _⟩)
    · (go_wp2; exact ⟨rfl, Below.refl _ _⟩)
    simp only [act_norm]
    refine wpAnyE_one 9 rfl (by kernel_rfl) rfl (fun wd hS => ?_)
    have hst2 := stab_mem (w := w) (bs := [(w.heap.size, .cells #[.int .i64 x0, .int .i64 x1, .int .i64 0, .int .i64 1] 94)])
    refine wp_store_row 94 _ _ rfl w.heap.size #[.int .i64 x0, .int .i64 x1, .int .i64 0, .int .i64 1] rfl rfl 94 #[.int .i64 0, .int .i64 0, .int .i64 0, .int .i64 0] (hS.1.heap 0 rfl) ref52_of_size rfl (by simp [Value.oneCell']) ?_
    refine ⟨_, hS.1.setRow 0 rfl, hst2, .inl (by decide), ?_⟩
    clear hS hst
    have hst := hst2
    try simp only [act_norm]
    refine wpAnyE_take 10 rfl (by kernel_rfl) (by kernel_rfl) (by kernel_rfl) (fun _ _ _ h => h) hst (EffB.pure rfl (fun _ => rfl)) (.inr (EffB.pure rfl (fun _ => rfl))) ?_
    simp only [act_norm]
    refine wpAnyE_done (by kernel_rfl) (fun wd hS => ?_) _
    have MF := Lib.hid hS
    clear hS
    go_wp2
    exact bodyPost_ret (results_row_tmp rfl _ _ w.heap.size 94 #[.int .i64 x0, .int .i64 x1, .int .i64 0, .int .i64 1] (0, 0) _ 4 _ rfl rfl (MF.out.heap 0 rfl) Try.underlying94 rfl ref52_of_size rfl) rfl ⟨rfl, MF.out.below⟩
  obtain ⟨m, h, emh, h1, h2, h3⟩ : ∃ m h, L.length = m + h ∧ 1 ≤ h ∧ h ≤ m ∧ m ≤ h + 1 := ⟨L.length - L.length / 2, L.length / 2, by omega, by omega, by omega, by omega⟩
  have HX : Hid (Trd.line L = ⟨Trd.mid (L.drop m), Trd.mean (L.drop m), Trd.mean (L.drop m) - Trd.mean (L.take h), Trd.mid (L.drop m) - Trd.mid (L.take h)⟩ ∧ decide (0 < L.length) = true) := ⟨Trd.line_some emh h1 h2 h3, decide_eq_true (by omega)⟩
  rw [HX.out.1, HX.out.2]
  obtain ⟨a1, d1, a2, d2, g1, g2, g3, g4, g5, g6⟩ := Trd.parts HL.out.2.1 HL.out.1 emh h1 h2
  have lt : (L.take h).length = h := by rw [List.length_take]; omega
  have ld : (L.drop m).length = h := by rw [List.length_drop]; omega
  have m1 := Trd.mid_of g1 g2
  have m2 := Trd.mid_of g3 g4
  have f1 := fun (q : Option Addr) (c : Nat) (W : World) (hh : Samps W q (L.drop m)) => ref52_middle q c (L.drop m) (by omega) (by omega) a2 d2 g3 g4 g6 W hh
  have f2 := fun (q : Option Addr) (c : Nat) (W : World) (hh : Samps W q (L.take h)) => ref52_middle q c (L.take h) (by omega) (by omega) a1 d1 g1 g2 (by omega) W hh
  have hin1 : ∀ a ∈ L.drop m, a.In := fun a ha => HIN.out a (List.mem_of_mem_drop ha)
  have hin2 : ∀ a ∈ L.take h, a.In := fun a ha => HIN.out a (List.mem_of_mem_take ha)
  have f3 : ∀ (q : Option Addr) (c : Nat) (W : World), Samps W q (L.drop m) → Calls Try.prog 92 #[.slice q (L.drop m).length c] W fun e w' => e = .returned (.int .i64 (Trd.mean (L.drop m))) ∧ Below W.heap.size W w' := fun q c W hh => ref16_mean q c _ hin1 (by omega) W hh
  have f4 : ∀ (q : Option Addr) (c : Nat) (W : World), Samps W q (L.take h) → Calls Try.prog 92 #[.slice q (L.take h).length c] W fun e w' => e = .returned (.int .i64 (Trd.mean (L.take h))) ∧ Below W.heap.size W w' := fun q c W hh => ref16_mean q c _ hin2 (by omega) W hh
  obtain ⟨z1, ez1⟩ : ∃ z, Trd.mean (L.drop m) = z := ⟨_, rfl⟩
  obtain ⟨z2, ez2⟩ : ∃ z, Trd.mean (L.take h) = z := ⟨_, rfl⟩
  simp only [ez1] at f3
  simp only [ez2] at f4
  have b1 := Trd.mean_bd (L.drop m)
  have b2 := Trd.mean_bd (L.take h)
  obtain ⟨y1, ey1⟩ : ∃ y, y = Trd.mid (L.drop m) := ⟨_, rfl⟩
  obtain ⟨y2, ey2⟩ : ∃ y, y = Trd.mid (L.take h) := ⟨_, rfl⟩
  simp only [ez1] at b1
  simp only [ez2] at b2
  simp only [ez1, ez2]
  rw [← ey1] at m2
  rw [← ey2] at m1
  simp only [← ey1, ld] at f1
  simp only [← ey2, lt] at f2
  simp only [ld] at f3
  simp only [lt] at f4
  simp only [← ey1, ← ey2]
  obtain ⟨E, eE⟩ : ∃ E, E = L.take h := ⟨_, rfl⟩
  obtain ⟨D, eD⟩ : ∃ D, D = L.drop m := ⟨_, rfl⟩
  simp only [← eE] at f2 f4
  simp only [← eD] at f1 f3
  have SE : Hid (∀ (W : World) (b off : Nat), Samps W (some ⟨b, off, none⟩) L → Samps W (some ⟨b, off, none⟩) E) := fun W b off hh => eE ▸ hh.takeN h
  have SD : Hid (∀ (W : World) (b off : Nat), Samps W (some ⟨b, off, none⟩) L → Samps W (some ⟨b, off + m * 2, none⟩) D) := fun W b off hh => eD ▸ hh.dropN m
  have HP : Hid (∀ (W : World) (q : Option Addr), Samps W q L → ∃ b off, q = some ⟨b, off, none⟩) := fun W q hh => by
    obtain ⟨b, off, e, _⟩ := hh.cells 0 (by omega)
    exact ⟨b, off, e⟩
  have F1 := Lib.hid f1
  have F2 := Lib.hid f2
  have F3 := Lib.hid f3
  have F4 := Lib.hid f4
  have y1b : 0 ≤ y1 ∧ y1 ≤ 9223372036854775807 := by omega
  have y2b : 0 ≤ y2 ∧ y2 ≤ 9223372036854775807 := by omega
  have eqi : ((m : Int) + h) / 2 = (h : Int) := by omega
  rw [emh] at G1
  rw [emh] at hlen'
  clear f1 f2 f3 f4 m1 m2 g1 g2 g3 g4 g5 g6 lt ld eE eD ey1 ey2 ez1 ez2 e0 e1 HX HL HIN
  go_enter Try.func54, Try.ntmps54
  go_wp2_with fail
  (with_reducible refine (G1.out _ (HS.out.below M0.out.below)).mono ?_)
  rintro e w1 ⟨q, c, rfl, hc, hsa, _, hb1⟩
  have M1 := Lib.hid (M0.out.call hb1)
  obtain ⟨b, off, rfl⟩ := HP.out w1 q hsa
  have SA := Lib.hid hsa
  have hc2 : m + h ≤ c := hc
  have n0 : ¬ ((m : Int) + h = 0) := by omega
  have n1 : ¬ ((m : Int) + h = 1) := by omega
  clear hsa hb1 M0 G1 HP hc
  have M2 := Lib.hid M1.out
  have SA2 := Lib.hid SA.out
  clear M1 SA
  go_wp2_with fail
  (with_reducible refine (F1.out _ _ _ (SD.out _ b off SA2.out)).mono ?_)
  rintro e w3 ⟨rfl, hb3⟩
  have M3 := Lib.hid (M2.out.call hb3)
  have SA3 := Lib.hid (SA2.out.below hb3)
  clear hb3 M2 SA2 F1
  go_wp2_with fail
  (with_reducible refine (F3.out _ _ _ (SD.out _ b off SA3.out)).mono ?_)
  rintro e w4 ⟨rfl, hb4⟩
  have M4 := Lib.hid ((M3.out.call hb4).alloc (.cells #[.int .i64 y1, .int .i64 z1, .int .i64 0, .int .i64 0] 94))
  have SA4 := Lib.hid ((SA3.out.below hb4).below (below1 w4 (.cells #[.int .i64 y1, .int .i64 z1, .int .i64 0, .int .i64 0] 94)))
  obtain ⟨Y, hY⟩ : ∃ Y, w4.heap.size = Y := ⟨_, rfl⟩
  have HNE : Hid (b ≠ Y) := by
    show _ ≠ _
    have := SA3.out.lt (by omega)
    have := hb4.size
    omega
  clear hb4 M3 SA3 F3
  go_wp2_with fail
  rw [hY] at M4
  try rw [hY]
  have hst := stab_and (stab_mem (w := w) (bs := [(w.heap.size, .cells #[.int .i64 0, .int .i64 0, .int .i64 0, .int .i64 0] 94), (Y, .cells #[.int .i64 y1, .int .i64 z1, .int .i64 0, .int .i64 0] 94)])) (stab_sampsS (q := some ⟨b, off, none⟩) (l := L))
  refine wp_region_E mixed [6] hst ⟨M4.out.drewN 1, SA4.out.below (below_drew (Below.refl _ _))⟩ ?_
  clear hY SA4 M4
  refine wpAnyE_take 0 (v := .pointer (some ⟨Y, 1, none⟩)) rfl (by kernel_rfl) (by kernel_rfl) (by kernel_rfl) (fun _ _ _ h => h) hst (EffB.run rfl rfl (fun wd hS => ?_)) (.inr (EffB.run rfl rfl (fun wd hS => ?_))) ?_
  · (go_wp2; exact ⟨rfl, Below.refl _ _⟩)
  · (go_wp2; exact ⟨rfl, Below.refl _ _⟩)
  simp only [act_norm]
  refine wpAnyE_take 1 (v := .int .i64 z1) rfl (by kernel_rfl) (by kernel_rfl) (by kernel_rfl) (fun _ _ _ h => h) hst (EffB.run rfl rfl (fun wd hS => ?_)) (.inl (by kernel_rfl)) ?_
  · (have c2 : wd.cell? ⟨Y, 1, none⟩ = some (.int .i64 z1) := by rw [cell_of_row _ _ _ _ _ _ (hS.1.heap 1 rfl)]; rfl); go_wp2; exact ⟨rfl, Below.refl _ _⟩
  simp only [act_norm]
  refine wpAnyE_take 2 rfl (by kernel_rfl) (by kernel_rfl) (by kernel_rfl) (fun _ _ _ h => h) hst (EffB.pure rfl (fun _ => rfl)) (.inr (EffB.pure rfl (fun _ => rfl))) ?_
  simp only [act_norm]
  refine wpAnyE_take 3 (v := .int .i64 z2) rfl (by kernel_rfl) (by kernel_rfl) (by kernel_rfl) (fun _ _ _ h => h) hst (EffB.run rfl rfl (fun wd hS => ?_)) (.inl (by kernel_rfl)) ?_
  · (go_wp2_with fail; (with_reducible refine (F4.out _ _ wd (SE.out wd b off hS.2)).mono ?_); rintro e w'' ⟨rfl, hb⟩; exact ⟨rfl, hb⟩)
  simp only [act_norm]
  refine wpAnyE_take 4 (v := .int .i64 (z1 - z2)) rfl (by kernel_rfl) (by kernel_rfl) (by kernel_rfl) (fun _ _ _ h => h) hst (EffB.run rfl rfl (fun wd hS => ?_)) (.inr (EffB.run rfl rfl (fun wd hS => ?_))) ?_
  · (go_wp2; exact ⟨rfl, Below.refl _ _⟩)
  · (go_wp2; exact ⟨rfl, Below.refl _ _⟩)
  simp only [act_norm]
  refine wpAnyE_take 5 (v := .pointer (some ⟨Y, 2, none⟩)) rfl (by kernel_rfl) (by kernel_rfl) (by kernel_rfl) (fun _ _ _ h => h) hst (EffB.run rfl rfl (fun wd hS => ?_)) (.inr (EffB.run rfl rfl (fun wd hS => ?_))) ?_
  · (go_wp2; exact ⟨rfl, Below.refl _ _⟩)
  · (go_wp2; exact ⟨rfl, Below.refl _ _⟩)
  simp only [act_norm]
  refine wpAnyE_one 6 rfl (by kernel_rfl) rfl (fun wd hS => ?_)
  have fr1 := hS.1.free 1 2 rfl
  have k1 := hS.1.cell 1 2 rfl rfl
  have hst2 := stab_and (stab_mem (w := w) (bs := [(w.heap.size, .cells #[.int .i64 0, .int .i64 0, .int .i64 0, .int .i64 0] 94), (Y, .cells #[.int .i64 y1, .int .i64 z1, .int .i64 (z1 - z2), .int .i64 0] 94)])) (stab_sampsS (q := some ⟨b, off, none⟩) (l := L))
  have MS := Lib.hid (And.intro (hS.1.setCell 1 2 (.int .i64 (z1 - z2)) rfl) (hS.2.setOther (Y := Y) (j := 2) (v := .int .i64 (z1 - z2)) HNE.out))
  clear hS hst
  go_wp2
  refine ⟨_, MS.out, hst2, ?_⟩
  clear MS fr1 k1
  have hst := hst2
  clear hst2
  try simp only [act_norm]
  refine wpAnyE_done (by kernel_rfl) (fun wd hS => ?_) _
  have MT := Lib.hid hS
  clear hS hst F4
  go_wp2_with fail
  have hst := stab_and (stab_mem (w := w) (bs := [(w.heap.size, .cells #[.int .i64 0, .int .i64 0, .int .i64 0, .int .i64 0] 94), (Y, .cells #[.int .i64 y1, .int .i64 z1, .int .i64 (z1 - z2), .int .i64 0] 94)])) (stab_sampsS (q := some ⟨b, off, none⟩) (l := L))
  refine wp_region_E mixed [6] hst ⟨MT.out.1.drewN 1, MT.out.2.below (below_drew (Below.refl _ _))⟩ ?_
  clear MT
  refine wpAnyE_take 0 (v := .pointer (some ⟨Y, 0, none⟩)) rfl (by kernel_rfl) (by kernel_rfl) (by kernel_rfl) (fun _ _ _ h => h) hst (EffB.run rfl rfl (fun wd hS => ?_)) (.inr (EffB.run rfl rfl (fun wd hS => ?_))) ?_
  · (go_wp2; exact ⟨rfl, Below.refl _ _⟩)
  · (go_wp2; exact ⟨rfl, Below.refl _ _⟩)
  simp only [act_norm]
  refine wpAnyE_take 1 (v := .int .i64 y1) rfl (by kernel_rfl) (by kernel_rfl) (by kernel_rfl) (fun _ _ _ h => h) hst (EffB.run rfl rfl (fun wd hS => ?_)) (.inl (by kernel_rfl)) ?_
  · (have c2 : wd.cell? ⟨Y, 0, none⟩ = some (.int .i64 y1) := by rw [cell_of_row _ _ _ _ _ _ (hS.1.heap 1 rfl)]; rfl); go_wp2; exact ⟨rfl, Below.refl _ _⟩
  simp only [act_norm]
  refine wpAnyE_take 2 rfl (by kernel_rfl) (by kernel_rfl) (by kernel_rfl) (fun _ _ _ h => h) hst (EffB.pure rfl (fun _ => rfl)) (.inr (EffB.pure rfl (fun _ => rfl))) ?_
  simp only [act_norm]
  refine wpAnyE_take 3 (v := .int .i64 y2) rfl (by kernel_rfl) (by kernel_rfl) (by kernel_rfl) (fun _ _ _ h => h) hst (EffB.run rfl rfl (fun wd hS => ?_)) (.inl (by kernel_rfl)) ?_
  · (go_wp2_with fail; (with_reducible refine (F2.out _ _ wd (SE.out wd b off hS.2)).mono ?_); rintro e w'' ⟨rfl, hb⟩; exact ⟨rfl, hb⟩)
  simp only [act_norm]
  refine wpAnyE_take 4 (v := .int .i64 (y1 - y2)) rfl (by kernel_rfl) (by kernel_rfl) (by kernel_rfl) (fun _ _ _ h => h) hst (EffB.run rfl rfl (fun wd hS => ?_)) (.inr (EffB.run rfl rfl (fun wd hS => ?_))) ?_
  · (go_wp2; exact ⟨rfl, Below.refl _ _⟩)
  · (go_wp2; exact ⟨rfl, Below.refl _ _⟩)
  simp only [act_norm]
  refine wpAnyE_take 5 (v := .pointer (some ⟨Y, 3, none⟩)) rfl (by kernel_rfl) (by kernel_rfl) (by kernel_rfl) (fun _ _ _ h => h) hst (EffB.run rfl rfl (fun wd hS => ?_)) (.inr (EffB.run rfl rfl (fun wd hS => ?_))) ?_
  · (go_wp2; exact ⟨rfl, Below.refl _ _⟩)
  · (go_wp2; exact ⟨rfl, Below.refl _ _⟩)
  simp only [act_norm]
  refine wpAnyE_one 6 rfl (by kernel_rfl) rfl (fun wd hS => ?_)
  have fr1 := hS.1.free 1 3 rfl
  have k1 := hS.1.cell 1 3 rfl rfl
  have hst2 := stab_and (stab_mem (w := w) (bs := [(w.heap.size, .cells #[.int .i64 0, .int .i64 0, .int .i64 0, .int .i64 0] 94), (Y, .cells #[.int .i64 y1, .int .i64 z1, .int .i64 (z1 - z2), .int .i64 (y1 - y2)] 94)])) (stab_sampsS (q := some ⟨b, off, none⟩) (l := L))
  have MS := Lib.hid (And.intro (hS.1.setCell 1 3 (.int .i64 (y1 - y2)) rfl) (hS.2.setOther (Y := Y) (j := 3) (v := .int .i64 (y1 - y2)) HNE.out))
  clear hS hst
  go_wp2
  refine ⟨_, MS.out, hst2, ?_⟩
  clear MS fr1 k1
  have hst := hst2
  clear hst2
  try simp only [act_norm]
  refine wpAnyE_done (by kernel_rfl) (fun wd hS => ?_) _
  have MT := Lib.hid hS.1
  have K0 := Lib.hid (hS.1.heap 0 rfl)
  have K1 := Lib.hid (hS.1.heap 1 rfl)
  clear hS hst F2
  go_wp2_with (first | ((with_reducible refine wpList_load_rowAs rfl 94 _ rfl (Y) ?_ 94 #[.int .i64 y1, .int .i64 z1, .int .i64 (z1 - z2), .int .i64 (y1 - y2)] (0, 0) _ 4 ?_ Try.underlying94 rfl (by kernel_rfl) ?_ ?_); exact rfl; exact K1.out; exact rfl) | ((with_reducible refine wpList_store_rowAs rfl 94 _ _ rfl (w.heap.size) #[.int .i64 y1, .int .i64 z1, .int .i64 (z1 - z2), .int .i64 (y1 - y2)] ?_ ?_ 94 #[.int .i64 0, .int .i64 0, .int .i64 0, .int .i64 0] 4 ?_ (by kernel_rfl) rfl rfl (by simp [Value.oneCell']) ?_); exact rfl; exact rfl; exact K0.out))
  have MF := Lib.hid (MT.out.setRow 0 (cs := #[.int .i64 y1, .int .i64 z1, .int .i64 (z1 - z2), .int .i64 (y1 - y2)]) rfl)
  exact bodyPost_ret (results_row_tmp rfl _ _ w.heap.size 94 #[.int .i64 y1, .int .i64 z1, .int .i64 (z1 - z2), .int .i64 (y1 - y2)] (0, 0) _ 4 _ rfl rfl (MF.out.heap 0 rfl) Try.underlying94 rfl ref52_of_size rfl) rfl ⟨rfl, MF.out.below⟩
end Go.Proofs.Ytcanbagnehdbiaa
