/- Layer 9: more contracts, and the reference's. -/
import Derived.Test.YtdchooggindihaaStat2
import Derived.Test.YtdchooggindihaaSame
import Derived.Test.YtdchooggindihaaRef02c
import Derived.Test.YtdchooggindihaaLaws02d
namespace Go.Proofs.Ytdchooggindihaa
open Go.ChangeShapes Go.WideShapes Go.ChangeAt Go.RowKit

theorem same_from' {α : Type} [Inhabited α] {a b : List α} {k : Nat} (hk : k = a.length) (hl : a.length = b.length) (h : ∀ j, j < k → a[j]?.getD default = b[j]?.getD default) : a = b := by
  apply List.ext_getElem hl
  intro i h1 h2
  have := h i (by omega)
  simpa [h1, h2] using this

set_option maxHeartbeats 1000000 in
set_option maxRecDepth 100000 in
theorem ref08_same (p q : Option Addr) (c d : Nat) (a b : List Samp) (w : World) (ha : Samps w p a) (hb : Samps w q b) (la : a.length ≤ 9223372036854775807) (lb : b.length ≤ 9223372036854775807) :
    Calls Try.prog 16 #[.slice p a.length c, .slice q b.length d] w fun e w' => e = .returned (.bool (decide (a = b))) ∧ Below w.heap.size w w' := by
  have HA := Lib.hid ha
  have HB := Lib.hid hb
  have HYES : Hid (a = b → decide (a = b) = true) := fun h => decide_eq_true h
  have HNO : Hid (¬ a = b → decide (a = b) = false) := fun h => decide_eq_false h
  obtain ⟨r, hr⟩ : ∃ r, r = decide (a = b) := ⟨_, rfl⟩
  rw [← hr] at HYES HNO ⊢
  obtain ⟨n, hn⟩ : ∃ n, n = a.length := ⟨_, rfl⟩
  obtain ⟨m, hm⟩ : ∃ m, m = b.length := ⟨_, rfl⟩
  rw [← hn] at la ⊢
  rw [← hm] at lb ⊢
  have HN := Lib.hid hn
  have HM := Lib.hid hm
  clear ha hb hr hn hm
  by_cases hne : n = m
  · subst hne
    go_enter Try.func16, Try.ntmps16
    go_wp2
    go_loopw [5] (fun i wr => ∃ k : Nat, k ≤ n ∧ i = .int .i64 k ∧ (∀ j, j < k → a[j]?.getD default = b[j]?.getD default) ∧ Below w.heap.size w wr) (fun i _ => n - (intOf i).toNat)
    case atStart => exact ⟨0, by omega, rfl, fun j hj => by omega, Below.refl _ _⟩
    case round =>
      obtain ⟨k, hk, rfl, hj, hBW⟩ := hrel
      have HJ := Lib.hid hj
      have HBW := Lib.hid hBW
      clear hj hBW
      by_cases hlt : k < n
      · obtain ⟨b1, o1, rfl, hb1, g0, g1⟩ := HA.out.cells k (by have := HN.out; omega)
        obtain ⟨b2, o2, rfl, hb2, g2, g3⟩ := HB.out.cells k (by have := HM.out; omega)
        rw [← HBW.out.cell (p := ⟨b1, _, none⟩) hb1] at g0 g1
        rw [← HBW.out.cell (p := ⟨b2, _, none⟩) hb2] at g2 g3
        have HX : Hid (a[k]?.getD default = b[k]?.getD default → ∀ j, j < k + 1 → a[j]?.getD default = b[j]?.getD default) := fun h j hj => by
          by_cases e : j = k
          · rw [e]; exact h
          · exact HJ.out j (by omega)
        have HXN : Hid (¬ a[k]?.getD default = b[k]?.getD default → ¬ a = b) := fun h e => h (by rw [e])
        obtain ⟨x, ex⟩ : ∃ x, x = a[k]?.getD default := ⟨_, rfl⟩
        obtain ⟨y, ey⟩ : ∃ y, y = b[k]?.getD default := ⟨_, rfl⟩
        rw [← ex] at g0 g1 HX HXN
        rw [← ey] at g2 g3 HX HXN
        clear ex ey
        have i1 : (0 : Int) ≤ k := by omega
        have i2 : (k : Int) < n := by omega
        by_cases hxy : x = y
        · subst hxy
          have HX2 := Lib.hid (HX.out rfl)
          clear HX HXN
          go_wp2
          go_quiet (fail)
          go_wp2
          exact ⟨⟨k + 1, by omega, by go_num, HX2.out, below_drewN HBW.out nq⟩, by simp [intOf]; omega⟩
        · have HE := Lib.hid (HNO.out (HXN.out hxy))
          clear HX HXN
          by_cases ht : x.tick = y.tick
          · have hv : ¬ x.val = y.val := fun h => hxy (by cases x; cases y; simp_all)
            have t1 : (x.tick == y.tick) = true := beq_iff_eq.2 ht
            have t2 : (x.val == y.val) = false := beq_eq_false_iff_ne.2 hv
            clear hxy ht
            go_wp2
            go_quiet (fail)
            go_wp2
            go_ret
            exact ⟨ret_bool HE.out.symm, below_drewN HBW.out _⟩
          · have t1 : (x.tick == y.tick) = false := beq_eq_false_iff_ne.2 ht
            clear hxy ht
            go_wp2
            go_quiet (fail)
            go_wp2
            go_ret
            exact ⟨ret_bool HE.out.symm, below_drewN HBW.out _⟩
      · obtain rfl : k = n := by omega
        have HE := Lib.hid (HYES.out (same_from' (k := k) HN.out (by rw [← HN.out, ← HM.out]) HJ.out))
        go_wp2
        go_ret
        exact ⟨ret_bool HE.out.symm, HBW.out⟩
  · have HE := Lib.hid (HNO.out (fun h => hne (by rw [HN.out, HM.out, h])))
    have hni : ¬ (n : Int) = m := by omega
    go_enter Try.func16, Try.ntmps16
    go_wp2
    go_ret
    exact ⟨ret_bool HE.out.symm, Below.refl _ _⟩


def Win.from (to width : Int) : Int := Sat.clamp (Sat.clamp (to - width) + 1)

theorem window_from (to width : Int) (ht : I64 to) (hw : I64 width) (w : World) : Calls Try.prog 22 #[.int .i64 to, .int .i64 width] w fun e w' => e = .returned (.int .i64 (Win.from to width)) ∧ w = w' := by
  have h1 := sat_sub to width ht hw
  have h2 := sat_add (Sat.clamp (to - width)) 1 (Sat.clamp_I64 _) (by unfold I64; omega)
  have HE : Hid (Win.from to width = Sat.clamp (Sat.clamp (to - width) + 1)) := rfl
  obtain ⟨a, ea⟩ : ∃ a, a = Sat.clamp (to - width) := ⟨_, rfl⟩
  rw [← ea] at h1 h2 HE
  have H1 := Lib.hid h1
  have H2 := Lib.hid h2
  clear h1 h2 ea ht hw
  go_enter Try.func22, Try.ntmps22
  go_wp2_with (first | ((with_reducible refine (H1.out _).mono ?_); rintro e w1 ⟨rfl, rfl⟩) | ((with_reducible refine (H2.out _).mono ?_); rintro e w1 ⟨rfl, rfl⟩))
  go_ret
  exact ⟨ret_int HE.out.symm, rfl⟩
theorem ref09_from (to width : Int) (ht : I64 to) (hw : I64 width) (w : World) : Calls Try.prog 15 #[.int .i64 to, .int .i64 width] w fun e w' => e = .returned (.int .i64 (Win.from to width)) ∧ w = w' := by
  have h1 := ref_sub to width ht hw
  have h2 := ref_add (Sat.clamp (to - width)) 1 (Sat.clamp_I64 _) (by unfold I64; omega)
  have HE : Hid (Win.from to width = Sat.clamp (Sat.clamp (to - width) + 1)) := rfl
  obtain ⟨a, ea⟩ : ∃ a, a = Sat.clamp (to - width) := ⟨_, rfl⟩
  rw [← ea] at h1 h2 HE
  have H1 := Lib.hid h1
  have H2 := Lib.hid h2
  clear h1 h2 ea ht hw
  go_enter Try.func15, Try.ntmps15
  go_wp2_with (first | ((with_reducible refine (H1.out _).mono ?_); rintro e w1 ⟨rfl, rfl⟩) | ((with_reducible refine (H2.out _).mono ?_); rintro e w1 ⟨rfl, rfl⟩))
  go_ret
  exact ⟨ret_int HE.out.symm, rfl⟩

set_option maxHeartbeats 1000000 in
set_option maxRecDepth 100000 in
theorem window_at (p : Option Addr) (cap : Nat) (l : List Samp) (hin : ∀ a ∈ l, a.In) (hb : l.length ≤ 100000) (to width : Int) (ht : I64 to) (hw : I64 width) (s : Stat) (es : s = Stat.of (Samp.vals (Samp.cut (Win.from to width) to l))) (w : World) (hs : Samps w p l) :
    Calls Try.prog 25 #[.slice p l.length cap, .int .i64 to, .int .i64 width] w fun e w' => e = .returned (.agg #[.int .i64 s.count, .int .i64 s.sum, .int .i64 s.least, .int .i64 s.most, .int .i64 s.mean]) ∧ Below w.heap.size w w' := by
  have h1 := window_from to width ht hw
  obtain ⟨fr, ef⟩ : ∃ f, f = Win.from to width := ⟨_, rfl⟩
  rw [← ef] at h1 es
  have h2 := fun W : World => fun h : Samps W p l => window_cut p cap l fr to hb W h
  have hcin := Samp.cut_In fr to l hin
  have hcl := Samp.cut_len fr to l
  obtain ⟨m, em⟩ : ∃ m, m = Samp.cut fr to l := ⟨_, rfl⟩
  rw [← em] at hcin hcl es
  simp only [← em] at h2
  have h3 := fun (q : Option Addr) (c : Nat) (W : World) (h : Samps W q m) => window_of q c m hcin (by omega) s es W h
  have H1 := Lib.hid h1
  have H2 := Lib.hid h2
  have H3 := Lib.hid h3
  have hs1 : Samps (w.alloc (.cells #[.int .i64 0, .int .i64 0, .int .i64 0, .int .i64 0, .int .i64 0] 32)) p l := hs.below (below1 _ _)
  have HS1 := Lib.hid hs1
  obtain ⟨n, hn⟩ : ∃ n, n = l.length := ⟨_, rfl⟩
  rw [← hn] at hb hcl H2 ⊢
  clear h1 h2 h3 ef em es hcin hs hs1 hn ht hw
  go_enter Try.func25, Try.ntmps25
  go_wp2_with ((with_reducible refine (H1.out _).mono ?_); rintro e w1 ⟨rfl, rfl⟩)
  (with_reducible refine (H2.out _ HS1.out).mono ?_)
  rintro e w1 ⟨u, rfl, hO, hB⟩
  obtain ⟨q, c, rfl, _, hq⟩ := samps_of_owns hO
  have k1 : w1.heap[w.heap.size]? = some (.cells #[.int .i64 0, .int .i64 0, .int .i64 0, .int .i64 0, .int .i64 0] 32 (0, 0)) := by rw [hB.block _ (by simp)]; exact (by first | (with_reducible exact heap_1_0 _ _) | (with_reducible exact heap_2_0 _ _ _) | (with_reducible exact heap_2_1 _ _ _) | (with_reducible exact heap_3_0 _ _ _ _) | (with_reducible exact heap_3_1 _ _ _ _) | (with_reducible exact heap_3_2 _ _ _ _) | (with_reducible exact heap_4_0 _ _ _ _ _) | (with_reducible exact heap_4_1 _ _ _ _ _) | (with_reducible exact heap_4_2 _ _ _ _ _) | (with_reducible exact heap_4_3 _ _ _ _ _) | (with_reducible exact heap_5_0 _ _ _ _ _ _) | (with_reducible exact heap_5_1 _ _ _ _ _ _) | (with_reducible exact heap_5_2 _ _ _ _ _ _) | (with_reducible exact heap_5_3 _ _ _ _ _ _) | (with_reducible exact heap_5_4 _ _ _ _ _ _) | (with_reducible exact heap_6_0 _ _ _ _ _ _ _) | (with_reducible exact heap_6_1 _ _ _ _ _ _ _) | (with_reducible exact heap_6_2 _ _ _ _ _ _ _) | (with_reducible exact heap_6_3 _ _ _ _ _ _ _) | (with_reducible exact heap_6_4 _ _ _ _ _ _ _) | (with_reducible exact heap_6_5 _ _ _ _ _ _ _) | simp only [heap_alloc_past, heap_alloc_at, World.size_alloc, Nat.add_assoc, Nat.reduceAdd, Nat.lt_add_right_iff_pos, Nat.add_lt_add_iff_left, Nat.reduceLT, Nat.zero_lt_succ, Nat.lt_add_one])
  have HB := Lib.hid ((below1 w (.cells #[.int .i64 0, .int .i64 0, .int .i64 0, .int .i64 0, .int .i64 0] 32)).trans (hB.mono (by simp)))
  have HQ := Lib.hid hq
  have K1 := Lib.hid k1
  clear hO hB hq k1 HS1
  go_wp2_with fail
  (with_reducible refine (H3.out _ _ _ HQ.out).mono ?_)
  rintro e w2 ⟨rfl, hb2⟩
  have k1 := (hb2.block _ (lt_of_heap K1.out)).trans K1.out
  have HB2 := Lib.hid (HB.out.trans (hb2.mono HB.out.size))
  have K2 := Lib.hid k1
  clear hb2 k1 HB K1 HQ
  go_wp2_with ((with_reducible refine wpList_store_rowAs rfl 32 _ _ rfl (w.heap.size) #[.int .i64 s.count, .int .i64 s.sum, .int .i64 s.least, .int .i64 s.most, .int .i64 s.mean] ?_ ?_ 32 #[.int .i64 0, .int .i64 0, .int .i64 0, .int .i64 0, .int .i64 0] 5 ?_ (by kernel_rfl) rfl rfl (by simp [Value.oneCell']) ?_); exact rfl; exact rfl; exact K2.out)
  exact bodyPost_ret (results_cell_row rfl _ _ w.heap.size 32 #[.int .i64 s.count, .int .i64 s.sum, .int .i64 s.least, .int .i64 s.most, .int .i64 s.mean] (0, 0) _ rfl (setRow_heap _ _ _ _ _ _ K2.out) Try.underlying32 rfl statInfo) rfl ⟨rfl, below_setRow HB2.out (Nat.le_refl _) _⟩
end Go.Proofs.Ytdchooggindihaa
