/- Layer 55: what the law asks of shapes: the reference's Check; shapes as the program's. -/
import Derived.Test.YtldhbgefpfmkmaaGreatJLaws55
namespace Go.Proofs.YtldhbgefpfmkmaaGreat
open Go.ChangeShapes Go.WideShapes Go.ChangeAt Go.RowKit

set_option maxRecDepth 100000 in
theorem ref54_check (s : Adv) (w : World) : Calls Tryz.prog 16 #[.agg #[.int .i64 s.tick, .int .i64 s.load, .int .i64 s.want, .int .i64 s.repl, .int .i64 s.why]] w fun e w' => e = .returned (.int .i64 (Shp.code s)) ∧ Below w.heap.size w w' := by
  have HC : Hid (Shp.code s = if s.tick < 1 ∨ 5 < s.tick then 14 else if s.load < 0 ∨ s.want < s.load then 4 else if s.repl < 1 ∨ 2147483648 < s.repl then 1 else 0) := rfl
  obtain ⟨r, hr⟩ : ∃ r, r = Shp.code s := ⟨_, rfl⟩
  rw [← hr] at HC ⊢
  obtain ⟨kd, lo, hi, p, ph⟩ := s
  simp only at HC ⊢
  clear hr
  go_enter Tryz.func16, Tryz.ntmps16
  go_wp2
  all_goals go_ret
  all_goals exact ⟨ret_int (by have h := HC.out; (repeat' split at h) <;> omega), below1 _ _⟩

set_option maxHeartbeats 1000000 in
set_option maxRecDepth 100000 in
theorem ref55_check (p : Pol) (ticks : Int) (q : Option Addr) (c n : Nat) (l : List Adv) (en : l.length = n) (hb : n ≤ 9223372036854775807) (w : World) (hs : Advs w q l) :
    Calls Tryz.prog 7 #[.agg #[.int .i64 p.mn, .int .i64 p.mx, .int .i64 p.tg, .int .i64 p.tl, .int .i64 p.wi, .int .i64 p.ho], .int .i64 ticks, .slice q n c] w fun e w' => e = .returned (.int .i64 (Lp.err p ticks l)) ∧ Below w.heap.size w w' := by
  have HP := ref_polRight p
  have hd : Lp.err p ticks l = if p.ok = true then (if Lp.bad l l.length ≠ 0 then Lp.bad l l.length else if ticks < 0 ∨ 1024 < ticks then 12 else 0) else 7 := rfl
  obtain ⟨r, er⟩ : ∃ r, r = Lp.err p ticks l := ⟨_, rfl⟩
  rw [← er] at hd ⊢
  have HS := Lib.hid hs
  have EN := Lib.hid en
  have HUP := Lib.hid (fun k => Lp.bad_up l (k := k))
  have HN := Lib.hid (fun k => show Lp.bad l (k + 1) = if Lp.bad l k ≠ 0 then Lp.bad l k else Shp.code (l[k]?.getD default) from rfl)
  have H0 : Hid (Lp.bad l 0 = 0) := rfl
  rw [en] at hd
  obtain ⟨bd, ebd⟩ : ∃ f, f = Lp.bad l := ⟨_, rfl⟩
  rw [← ebd] at hd HN H0
  simp only [← ebd] at HUP
  clear er hs en ebd
  have M0 := Lib.hid ((Mem.start w).alloc (.cells #[.int .i64 p.mn, .int .i64 p.mx, .int .i64 p.tg, .int .i64 p.tl, .int .i64 p.wi, .int .i64 p.ho] 23))
  have K0 := Lib.hid (M0.out.heap 0 rfl)
  cases hok : p.ok with
  | false =>
    rw [hok] at HP hd
    rw [if_neg (by simp)] at hd
    have HP := Lib.hid HP
    have HD := Lib.hid hd
    clear hd hok
    go_enter Tryz.func7, Tryz.ntmps7
    go_wp2_with ((with_reducible refine wpList_load_rowAs rfl 23 _ rfl (w.heap.size) ?_ 23 #[.int .i64 p.mn, .int .i64 p.mx, .int .i64 p.tg, .int .i64 p.tl, .int .i64 p.wi, .int .i64 p.ho] (0, 0) _ 6 ?_ Tryz.underlying23 rfl (by kernel_rfl) ?_ ?_); exact rfl; exact K0.out; exact rfl)
    (with_reducible refine (HP.out _).mono ?_)
    rintro e w1 ⟨rfl, hb1⟩
    have HB := Lib.hid (M0.out.call hb1).below
    clear hb1
    go_wp2
    go_ret
    exact ⟨ret_int HD.out.symm, HB.out⟩
  | true =>
    rw [hok] at HP hd
    rw [if_pos rfl] at hd
    have HP := Lib.hid HP
    have HD := Lib.hid hd
    clear hd hok
    go_enter Tryz.func7, Tryz.ntmps7
    go_wp2_with ((with_reducible refine wpList_load_rowAs rfl 23 _ rfl (w.heap.size) ?_ 23 #[.int .i64 p.mn, .int .i64 p.mx, .int .i64 p.tg, .int .i64 p.tl, .int .i64 p.wi, .int .i64 p.ho] (0, 0) _ 6 ?_ Tryz.underlying23 rfl (by kernel_rfl) ?_ ?_); exact rfl; exact K0.out; exact rfl)
    (with_reducible refine (HP.out _).mono ?_)
    rintro e w1 ⟨rfl, hb1⟩
    have HB := Lib.hid (M0.out.call hb1).below
    clear hb1 M0 K0 HP
    go_wp2
    go_loopw [7] (fun i wr => ∃ k : Nat, k ≤ n ∧ i = .int .i64 (k : Nat) ∧ bd k = 0 ∧ Below w.heap.size w wr) (fun i _ => n - (intOf i).toNat)
    case atStart => exact ⟨0, by omega, rfl, H0.out, HB.out⟩
    case round =>
      obtain ⟨k, hk, rfl, hz, hB⟩ := hrel
      by_cases hlt : k < n
      · have hkl : k < l.length := by have := EN.out; omega
        obtain ⟨bq, off, rfl, hbw, c0, c1, c2, c3, c4⟩ := (HS.out.below hB).cells k hkl
        have hn := HN.out k
        rw [hz, if_neg (by simp)] at hn
        have A := ref54_check (l[k]?.getD default)
        obtain ⟨v, ev⟩ : ∃ v, v = Shp.code (l[k]?.getD default) := ⟨_, rfl⟩
        rw [← ev] at A hn
        obtain ⟨⟨x0, x1, x2, x3, x4⟩, ex⟩ : ∃ x, x = l[k]?.getD default := ⟨_, rfl⟩
        rw [← ex] at c0 c1 c2 c3 c4 A
        simp only at c0 c1 c2 c3 c4 A
        have HA := Lib.hid A
        have HB2 := Lib.hid hB
        have hkn : (k : Int) < n := by omega
        have HN2 := Lib.hid hn
        have hup := HUP.out (k + 1)
        have HUP2 := Lib.hid hup
        clear A ev ex hB hn hup hz
        go_wp2_with fail
        (with_reducible refine (HA.out _).mono ?_)
        rintro e w2 ⟨rfl, hb2⟩
        have HB3 := Lib.hid (HB2.out.trans (hb2.mono HB2.out.size))
        clear hb2
        by_cases hv : v = 0
        · subst hv
          go_wp2
          exact ⟨⟨k + 1, by omega, by go_num, HN2.out, HB3.out⟩, by simp [intOf]; omega⟩
        · have hvb : (v == 0) = false := beq_eq_false_iff_ne.2 hv
          have HR : Hid (v = r) := by
            show v = r
            have h1 : bd (k + 1) ≠ 0 := by rw [HN2.out]; exact hv
            have h2 := HUP2.out h1 (n - (k + 1))
            rw [show k + 1 + (n - (k + 1)) = n by omega, HN2.out] at h2
            rw [HD.out, if_pos (by rw [h2]; exact hv), h2]
          clear hv
          go_wp2
          go_ret
          exact ⟨ret_int HR.out, HB3.out⟩
      · obtain rfl : k = n := by omega
        have HB2 := Lib.hid hB
        have hD := HD.out
        rw [if_neg (by simpa using hz)] at hD
        have HD2 := Lib.hid hD
        clear hD hB HB
        go_wp2
        all_goals go_ret
        all_goals exact ⟨ret_int (by have h := HD2.out; split at h <;> omega), HB2.out⟩

theorem shapeInfo : (Tryz.prog.info? 44).map (fun i => (i.zero, i.size, i.bytes)) = some (some (.agg #[.int .i64 0, .int .i64 0, .int .i64 0, .int .i64 0, .int .i64 0]), 5, 40) := by kernel_rfl
theorem advVals_take (l : List Adv) (k : Nat) (hk : k < l.length) : advVals (l.take (k + 1)) = advVals (l.take k) ++ [.int .i64 (l[k]?.getD default).tick, .int .i64 (l[k]?.getD default).load, .int .i64 (l[k]?.getD default).want, .int .i64 (l[k]?.getD default).repl, .int .i64 (l[k]?.getD default).why] := by
  rw [List.take_succ_eq_append_getElem hk, advVals_append, List.getElem?_eq_getElem hk]
  rfl

set_option maxHeartbeats 1000000 in
set_option maxRecDepth 100000 in
theorem law55_shapes (q : Option Addr) (c n : Nat) (l : List Adv) (en : l.length = n) (hb : n ≤ 1000) (w : World) (hs : Advs w q l) :
    Calls Tryz.prog 5 #[.slice q n c] w fun e w' => ∃ u, e = .returned u ∧ Owns w' w.heap.size 5 u n (advVals l) ∧ Below w.heap.size w w' := by
  have HS := Lib.hid hs
  have EN := Lib.hid en
  have HTK := Lib.hid (advVals_take l)
  have HTF : Hid (l.take n = l) := by show _ = _; rw [← en]; exact List.take_length
  clear hs en
  go_enter Tryz.func5, Tryz.ntmps5
  go_wp2
  go_loopw [3, 8] (fun a i wr => ∃ (k : Nat) (u : Value), k ≤ n ∧ i = .int .i64 (k : Nat) ∧ a = u ∧ Owns wr w.heap.size 5 u k (advVals (l.take k)) ∧ Below w.heap.size w wr) (fun _ i _ => n - (intOf i).toNat)
  case atStart => exact ⟨0, _, by omega, rfl, rfl, owns_nil _ _ _, Below.refl _ _⟩
  case round =>
    obtain ⟨k, u, hk, rfl, rfl, hO, hB⟩ := hrel
    by_cases hlt : k < n
    · have hkl : k < l.length := by have := EN.out; omega
      obtain ⟨bq, off, rfl, hbw, c0, c1, c2, c3, c4⟩ := (HS.out.below hB).cells k hkl
      have htk := HTK.out k hkl
      obtain ⟨⟨x0, x1, x2, x3, x4⟩, ex⟩ : ∃ x, x = l[k]?.getD default := ⟨_, rfl⟩
      rw [← ex] at c0 c1 c2 c3 c4 htk
      simp only at c0 c1 c2 c3 c4 htk
      have HTK2 := Lib.hid htk
      obtain ⟨W1, hW1⟩ : ∃ W, W = wr.alloc (.cells #[.int .i64 x0, .int .i64 x1, .int .i64 x2, .int .i64 x3, .int .i64 x4] 45) := ⟨_, rfl⟩
      have B1 : Hid (Below w.heap.size w W1) := by show Below _ _ _; rw [hW1]; exact hB.alloc hB.size _
      have O1 : Hid (Owns W1 w.heap.size 5 u3 k (advVals (l.take k))) := by show Owns _ _ _ _ _ _; rw [hW1]; exact hO.below (below1 _ _)
      obtain ⟨Z, hZ⟩ : ∃ Z, wr.heap.size = Z := ⟨_, rfl⟩
      have K1 : Hid (W1.heap[Z]? = some (.cells #[.int .i64 x0, .int .i64 x1, .int .i64 x2, .int .i64 x3, .int .i64 x4] 45 (0, 0))) := by show _ = _; rw [hW1, ← hZ]; exact heap_alloc_at _ _ _ rfl
      have hkn : (k : Int) < n := by omega
      have hBz : w.heap.size ≤ W1.heap.size := B1.out.size
      have hmxl : k + 1 ≤ maxLen := by unfold maxLen; omega
      have hbyt : (k + 1) * 40 ≤ 140737488355328 := by omega
      obtain ⟨pu, cu, eu, _⟩ := hO.sl
      subst eu
      clear htk ex hO hB
      go_upto_region 5 with fail
      rw [← hW1]
      try rw [hZ]
      clear hW1 hZ c0 c1 c2 c3 c4 hbw
      go_wp2_with (first | ((with_reducible refine wpList_load_rowAs rfl 45 _ rfl (Z) ?_ 45 #[.int .i64 x0, .int .i64 x1, .int .i64 x2, .int .i64 x3, .int .i64 x4] (0, 0) _ 5 ?_ Tryz.underlying45 rfl (by kernel_rfl) ?_ ?_); exact rfl; exact K1.out; exact rfl) | (at_builtin; refine wpList_append_new2 rfl _ _ 26 rfl _ _ 44 rfl w.heap.size 44 (.agg #[.int .i64 0, .int .i64 0, .int .i64 0, .int .i64 0, .int .i64 0]) 5 40 Tryz.underlying26 shapeInfo rfl (by decide) (.slice pu k cu) k (advVals (l.take k)) rfl O1.out rfl rfl (advVals_one1 ⟨x0, x1, x2, x3, x4⟩) hmxl hbyt hBz ?_; intro u8 x8 ha8 hg8 hb8 hw8; have HA8 := Lib.hid ha8; have HB8 := Lib.hid hb8; clear ha8 hg8 hb8 hw8))
      exact ⟨⟨k + 1, _, by omega, by go_num, rfl, by rw [HTK2.out]; exact HA8.out, B1.out.trans HB8.out⟩, by simp [intOf]; omega⟩
    · obtain rfl : k = n := by omega
      have HO := Lib.hid hO
      have HB := Lib.hid hB
      clear hO hB
      go_wp2
      go_ret
      exact ⟨_, rfl, by have := HO.out; rw [HTF.out] at this; exact this, HB.out⟩
end Go.Proofs.YtldhbgefpfmkmaaGreat
