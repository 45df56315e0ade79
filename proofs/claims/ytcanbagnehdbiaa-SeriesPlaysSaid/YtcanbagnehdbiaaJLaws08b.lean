/- Layer 8: whatever is put, and trimmed: the law, walked. -/
import Derived.Test.YtcanbagnehdbiaaJLaws08
import Derived.Test.YtcanbagnehdbiaaJActs
namespace Go.Proofs.Ytcanbagnehdbiaa
open Go.ChangeShapes Go.WideShapes Go.ChangeAt Go.RowKit

theorem Samps.turnedS {S : Nat → Prop} {w w' : World} {p : Option Addr} {l : List Samp} (h : Samps w p l) (ht : Turned S w w') (hp : ∀ ad, p = some ad → ¬ S ad.block) : Samps w' p l := by
  rcases h with h0 | ⟨b, off, rfl, hb, hc⟩
  · exact .inl h0
  · refine .inr ⟨b, off, rfl, Nat.lt_of_lt_of_le hb ht.size, fun j hj => ?_⟩
    rw [← hc j hj]
    unfold World.cell?
    simp only
    rw [ht.block b hb (hp _ rfl)]
/-- A list that stands beside a series. -/
structure Beside (w : World) (s : Nat) (v : Value) (q : Option Addr) (L : List Samp) : Prop where
  samps : Samps w q L
  lt : ∀ ad, q = some ad → ad.block < w.heap.size ∧ ad.block ≠ s ∧ v.ownBlock ≠ some ad.block
theorem Beside.below {w w' : World} {s : Nat} {v : Value} {q : Option Addr} {L : List Samp} (h : Beside w s v q L) (hb : Below w.heap.size w w') : Beside w' s v q L :=
  ⟨h.samps.below hb, fun ad e => ⟨Nat.lt_of_lt_of_le (h.lt ad e).1 hb.size, (h.lt ad e).2⟩⟩
theorem Beside.turned {w w' : World} {s : Nat} {v v' : Value} {q : Option Addr} {L : List Samp} (h : Beside w s v q L) (ht : Turned (fun k => k = s ∨ v.ownBlock = some k) w w') (hv : ∀ k, v'.ownBlock = some k → v.ownBlock = some k ∨ w.heap.size ≤ k) : Beside w' s v' q L :=
  ⟨h.samps.turnedS ht (fun ad e => by
    obtain ⟨_, h2, h3⟩ := h.lt ad e
    rintro (g | g)
    · exact h2 g
    · exact h3 g), fun ad e => by
    obtain ⟨h1, h2, h3⟩ := h.lt ad e
    refine ⟨Nat.lt_of_lt_of_le h1 ht.size, h2, fun g => ?_⟩
    rcases hv _ g with g | g
    · exact h3 g
    · omega⟩
/-- A new list, beside a series that was there. -/
theorem Beside.new {w w' : World} {B s : Nat} {v : Value} {room : Nat} {L0 L : List Samp} {q : Option Addr} (h : SerAt w B s v room L0) (hs : Samps w' q L) (hq : ∀ ad, q = some ad → w.heap.size ≤ ad.block ∧ ad.block < w'.heap.size) : Beside w' s v q L :=
  ⟨hs, fun ad e => by
    obtain ⟨h1, h2⟩ := hq ad e
    have := h.lt
    exact ⟨h2, by omega, fun g => by have := (h.owns.lt _ g).2; omega⟩⟩
theorem SerAt.low_of {w w' : World} {B s : Nat} {v : Value} {room : Nat} {L : List Samp} (h : SerAt w B s v room L) (ht : Turned (fun k => k = s ∨ v.ownBlock = some k) w w') {w0 : World} (hb : Below w0.heap.size w0 w) (hB : w0.heap.size ≤ B) : Below w0.heap.size w0 w' :=
  hb.trans (ht.below (fun k' e => by
    rcases e with rfl | e
    · exact Nat.le_trans hB h.low
    · exact Nat.le_trans hB (h.owns.lt k' e).1) hb.size)

set_option maxHeartbeats 4000000 in
set_option maxRecDepth 100000 in
theorem seriesPlays_walk (room : Int) (p : Option Addr) (cap : Nat) (acts : List Act8) (hb : acts.length ≤ 9223372036854775807) (w : World) (hs : Acts w p acts) :
    Calls Try.prog 9 #[.int .i64 room, .slice p acts.length cap] w fun e w' => e = .returned (.bool true) ∧ Below w.heap.size w w' := by
  obtain ⟨n, en⟩ : ∃ n, n = acts.length := ⟨_, rfl⟩
  by_cases hr : room < 1 ∨ 256 < room
  · have HNO := Lib.hid (ser_new_no room hr)
    rw [← en] at hb ⊢
    clear en hs
    by_cases h1 : room < 1
    · clear hr
      go_enter Try.func9, Try.ntmps9
      go_wp2_with fail
      (with_reducible refine (awake08 _).mono ?_)
      rintro e w1 ⟨rfl, hb1⟩
      have HB := Lib.hid hb1
      clear hb1
      go_wp2_with ((with_reducible refine (HNO.out _).mono ?_); rintro e w5 ⟨rfl, rfl⟩)
      go_ret
      exact ⟨rfl, HB.out⟩
    · have h2 : 256 < room := by omega
      clear hr
      go_enter Try.func9, Try.ntmps9
      go_wp2_with fail
      (with_reducible refine (awake08 _).mono ?_)
      rintro e w1 ⟨rfl, hb1⟩
      have HB := Lib.hid hb1
      clear hb1
      go_wp2_with ((with_reducible refine (HNO.out _).mono ?_); rintro e w5 ⟨rfl, rfl⟩)
      go_ret
      exact ⟨rfl, HB.out⟩
  obtain ⟨R, rfl⟩ : ∃ R : Nat, room = R := ⟨room.toNat, by omega⟩
  have hR1 : 1 ≤ R := by omega
  have hR2 : R ≤ 256 := by omega
  have r1 : ¬ ((R : Int) < 1) := by omega
  have r2 : ¬ ((256 : Int) < R) := by omega
  have HNW := Lib.hid (ser_new R hR1 hR2)
  by_cases h60 : 60 < n
  · have d1 : decide ((60 : Int) < n) = true := decide_eq_true (by omega)
    rw [← en] at hb ⊢
    clear en hs hr
    go_enter Try.func9, Try.ntmps9
    go_wp2_with fail
    (with_reducible refine (awake08 _).mono ?_)
    rintro e w1 ⟨rfl, hb1⟩
    have M1 := Lib.hid ((Mem.start w).call hb1)
    clear hb1
    go_wp2_with fail
    (with_reducible refine (HNW.out _).mono ?_)
    rintro e w2 ⟨s, rfl, _, hb2⟩
    have M2 := Lib.hid (M1.out.call hb2)
    clear hb2 M1
    go_wp2
    go_ret
    exact ⟨rfl, M2.out.below⟩
  have d1 : decide ((60 : Int) < n) = false := decide_eq_false (by omega)
  have hn60 : n ≤ 60 := by omega
  have HS := Lib.hid hs
  have EN := Lib.hid en
  rw [← en] at hb ⊢
  clear hs en hr hb h60
  go_enter Try.func9, Try.ntmps9
  go_wp2_with fail
  (with_reducible refine (awake08 _).mono ?_)
  rintro e w1 ⟨rfl, hb1⟩
  have M1 := Lib.hid ((Mem.start w).call hb1)
  clear hb1
  go_wp2_with fail
  (with_reducible refine (HNW.out _).mono ?_)
  rintro e w2 ⟨s, rfl, hser, hb2⟩
  have M2 := Lib.hid (M1.out.call hb2)
  have S2 := Lib.hid (hser.lift M1.out.below.size)
  clear hb2 M1 hser HNW
  go_wp2
  go_loopw [6, 34] (fun o i wr => ∃ (k : Nat) (v : Value) (q : Option Addr) (c : Nat) (L : List Samp), k ≤ n ∧ i = .int .i64 (k : Nat) ∧ o = .slice q L.length c ∧ SerAt wr w.heap.size s v R L ∧ Beside wr s v q L ∧ Below w.heap.size w wr) (fun _ i _ => n - (intOf i).toNat)
  case atStart => exact ⟨0, _, none, 0, [], by omega, rfl, rfl, S2.out, ⟨.inl rfl, fun _ h => (by cases h)⟩, M2.out.below⟩
  case round =>
    obtain ⟨k, v, q, c, L, hk, rfl, rfl, hSer, hBe, hB⟩ := hrel
    by_cases hlt : k < n
    · have hkl : k < acts.length := by have := EN.out; omega
      obtain ⟨bq, off, rfl, hbw, _⟩ := HS.out.cells k hkl
      have hcc := (HS.out.below hB).cells k hkl
      obtain ⟨b', off', e', _, c0, c1, c2⟩ := hcc
      simp only [Option.some.injEq, Addr.mk.injEq, and_true] at e'
      obtain ⟨rfl, rfl⟩ := e'
      obtain ⟨⟨kind, tick, val⟩, ea⟩ : ∃ a, a = acts[k]?.getD default := ⟨_, rfl⟩
      rw [← ea] at c0 c1 c2
      simp only at c0 c1 c2
      have M3 := Lib.hid (((Mem.start w).call hB).alloc (.cells #[.int .i64 kind, .int .i64 tick, .int .i64 val] 75))
      have S3 := Lib.hid (hSer.below (below1 wr (.cells #[.int .i64 kind, .int .i64 tick, .int .i64 val] 75)))
      have E3 := Lib.hid (hBe.below (below1 wr (.cells #[.int .i64 kind, .int .i64 tick, .int .i64 val] 75)))
      have SX := Lib.hid (And.intro hSer.lt (fun k' h => (hSer.owns.lt k' h).2))
      obtain ⟨W3, hW3⟩ : ∃ W, W = wr.alloc (.cells #[.int .i64 kind, .int .i64 tick, .int .i64 val] 75) := ⟨_, rfl⟩
      rw [← hW3] at M3 S3 E3
      have hkn : (k : Int) < n := by omega
      have hL256 : L.length ≤ 256 := Nat.le_trans hSer.len hSer.room2
      clear hSer hBe hB ea hkl S2 M2
      obtain ⟨nL, enL⟩ : ∃ m, m = L.length := ⟨_, rfl⟩
      have ENL := Lib.hid enL
      rw [← enL] at hL256 ⊢
      clear enL
      by_cases hk2 : kind = 2
      · subst hk2
        have k1 := M3.out.cell 0 1 rfl rfl
        have T1 := Lib.hid (ref08_trim q nL c L ENL.out.symm S3.out.sorted tick (by omega) W3 E3.out.samps)
        have hpl := Ser.place_le L tick
        have hdl : (L.drop (Ser.place L tick)).length = L.length - Ser.place L tick := List.length_drop
        have TR := Lib.hid (fun (W : World) (h : SerAt W w.heap.size s v R L) => ser_trim h tick)
        obtain ⟨j, ej⟩ : ∃ j, j = Ser.place L tick := ⟨_, rfl⟩
        rw [← ej] at T1 hpl hdl
        simp only [← ej] at TR
        obtain ⟨D, eD⟩ : ∃ D, D = L.drop j := ⟨_, rfl⟩
        rw [← eD] at T1 hdl
        simp only [← eD] at TR
        obtain ⟨m, em⟩ : ∃ m, m = D.length := ⟨_, rfl⟩
        have EM := Lib.hid em
        have hsub : (nL : Int) - (m : Int) = (j : Int) := by have := ENL.out; omega
        have hm256 : m ≤ 256 := by have := ENL.out; omega
        have hj256 : j ≤ 256 := by have := ENL.out; omega
        clear em ej eD hpl hdl
        go_wp2_with fail
        rw [← hW3]
        clear hW3
        (with_reducible refine T1.out.mono ?_)
        rintro e w4 ⟨u, rfl, ho, hb4⟩
        have hlt4 := ho.lt
        obtain ⟨q4, c4, rfl, _, hs4⟩ := samps_of_owns ho
        have hq4 : ∀ ad, q4 = some ad → W3.heap.size ≤ ad.block ∧ ad.block < w4.heap.size := fun ad e => by subst e; exact hlt4 ad.block rfl
        have E4 := Lib.hid (Beside.new S3.out hs4 hq4)
        have M4 := Lib.hid (M3.out.call hb4)
        have S4 := Lib.hid (S3.out.below hb4)
        have k4 := M4.out.cell 0 1 rfl rfl
        rw [← EM.out]
        have P5 := Lib.hid (TR.out w4 S4.out)
        clear hlt4 ho hs4 hq4 hb4 T1 k1 M3 S3 E3 TR
        go_wp2_with fail
        (with_reducible refine P5.out.mono ?_)
        rintro e w5 ⟨rfl, v5, hs5, ht5, hv5⟩
        have S5 := Lib.hid hs5
        have E5 := Lib.hid (E4.out.turned ht5 hv5)
        have B5 := Lib.hid (S4.out.low_of ht5 M4.out.below (Nat.le_refl _))
        have hp6 := told08 hs5 q4 c4 E5.out.samps
        rw [← EM.out] at hp6
        have P6 := Lib.hid hp6
        clear hs5 ht5 hv5 hp6 P5 k4 M4 S4 E4
        go_wp2_with fail
        (with_reducible refine P6.out.mono ?_)
        rintro e w6 ⟨rfl, hb6⟩
        have S6 := Lib.hid (S5.out.below hb6)
        have E6 := Lib.hid (E5.out.below hb6)
        have B6 := Lib.hid (B5.out.trans (hb6.mono B5.out.size))
        clear hb6 P6 S5 E5 B5
        go_wp2
        exact ⟨⟨k + 1, v5, q4, c4, D, by omega, by go_num, by rw [EM.out], S6.out, E6.out, B6.out⟩, by simp [intOf]; omega⟩
      · have hk2b : (kind == 2) = false := beq_eq_false_iff_ne.2 hk2
        have k1 := M3.out.cell 0 1 rfl rfl
        have k2 := M3.out.cell 0 2 rfl rfl
        have R1 := Lib.hid (ref08_right ⟨tick, val⟩)
        have R2 := Lib.hid (ser_right ⟨tick, val⟩)
        have P5 := Lib.hid (ser_step S3.out M3.out.below.size ⟨tick, val⟩)
        have P7 := Lib.hid (fun (W : World) (h : Samps W q L) => ref08_put q nL c L ENL.out.symm (by omega) S3.out.sorted R ⟨tick, val⟩ W h)
        have HST : Hid (Ser.step R L ⟨tick, val⟩ = if Ser.code ⟨tick, val⟩ = 0 then Ser.put L R ⟨tick, val⟩ else L) := rfl
        obtain ⟨cd, ecd⟩ : ∃ c, c = Ser.code ⟨tick, val⟩ := ⟨_, rfl⟩
        rw [← ecd] at P5 HST
        simp only [← ecd] at R1 R2
        obtain ⟨D, eD⟩ : ∃ D, D = Ser.step R L ⟨tick, val⟩ := ⟨_, rfl⟩
        rw [← eD] at P5 HST
        have KX := Lib.hid (M3.out.heap 0 rfl)
        clear ecd eD hk2
        go_wp2_with fail
        rw [← hW3]
        clear hW3
        (with_reducible refine (R1.out _).mono ?_)
        rintro e w4 ⟨rfl, rfl⟩
        go_wp2_with fail
        (with_reducible refine P5.out.mono ?_)
        rintro e w5 ⟨rfl, v5, hs5, ht5, hv5⟩
        have S5 := Lib.hid hs5
        have E5 := Lib.hid (E3.out.turned ht5 hv5)
        have B5 := Lib.hid (S3.out.low_of ht5 M3.out.below (Nat.le_refl _))
        have hkx := (ht5.block wr.heap.size (lt_of_heap KX.out) (fun h => by
          rcases h with h | h
          · have := SX.out.1; omega
          · have := SX.out.2 _ h; omega)).trans KX.out
        have x1 : w5.cell? ⟨wr.heap.size, 1, none⟩ = some (.int .i64 tick) := by rw [cell_of_row _ _ _ _ _ _ hkx]; rfl
        have x2 : w5.cell? ⟨wr.heap.size, 2, none⟩ = some (.int .i64 val) := by rw [cell_of_row _ _ _ _ _ _ hkx]; rfl
        clear hs5 ht5 hv5 hkx P5 k1 k2 M3 S3 E3 KX R1
        by_cases hc : cd = 0
        · subst hc
          have HD := Lib.hid (HST.out.trans (if_pos rfl))
          clear HST
          go_wp2_with ((with_reducible refine (R2.out _).mono ?_); rintro e w6 ⟨rfl, rfl⟩)
          (with_reducible refine (P7.out _ E5.out.samps).mono ?_)
          rintro e w7 ⟨q7, c7, rfl, _, hs7, hq7, hb7⟩
          rw [← HD.out] at hs7
          have E7 := Lib.hid (Beside.new S5.out hs7 hq7)
          have S7 := Lib.hid (S5.out.below hb7)
          have B7 := Lib.hid (B5.out.trans (hb7.mono B5.out.size))
          rw [← HD.out]
          have P8 := Lib.hid (told08 S7.out q7 c7 E7.out.samps)
          obtain ⟨m, em⟩ : ∃ m, m = D.length := ⟨_, rfl⟩
          rw [← em] at P8 ⊢
          have EM := Lib.hid em
          clear hs7 hq7 hb7 em P7 R2 S5 E5 B5 x1 x2
          go_wp2_with fail
          (with_reducible refine P8.out.mono ?_)
          rintro e w8 ⟨rfl, hb8⟩
          have S8 := Lib.hid (S7.out.below hb8)
          have E8 := Lib.hid (E7.out.below hb8)
          have B8 := Lib.hid (B7.out.trans (hb8.mono B7.out.size))
          clear hb8 P8 S7 E7 B7
          go_wp2
          exact ⟨⟨k + 1, v5, q7, c7, D, by omega, by go_num, by rw [EM.out], S8.out, E8.out, B8.out⟩, by simp [intOf]; omega⟩
        · have hcb : (cd == 0) = false := beq_eq_false_iff_ne.2 hc
          have HD := Lib.hid (HST.out.trans (if_neg hc))
          have hp8 := told08 S5.out q c (by rw [HD.out]; exact E5.out.samps)
          rw [HD.out, ← ENL.out] at hp8
          have P8 := Lib.hid hp8
          clear HST P7 hp8
          go_wp2_with ((with_reducible refine (R2.out _).mono ?_); rintro e w6 ⟨rfl, rfl⟩)
          (with_reducible refine P8.out.mono ?_)
          rintro e w8 ⟨rfl, hb8⟩
          have S8 := Lib.hid (S5.out.below hb8)
          have E8 := Lib.hid (E5.out.below hb8)
          have B8 := Lib.hid (B5.out.trans (hb8.mono B5.out.size))
          clear hb8 P8 S5 E5 B5 x1 x2
          go_wp2
          exact ⟨⟨k + 1, v5, q, c, L, by omega, by go_num, by rw [ENL.out], by rw [← HD.out]; exact S8.out, E8.out, B8.out⟩, by simp [intOf]; omega⟩
    · obtain rfl : k = n := by omega
      have BF := Lib.hid hB
      clear hSer hBe hB
      go_wp2
      go_ret
      exact ⟨rfl, BF.out⟩
end Go.Proofs.Ytcanbagnehdbiaa
