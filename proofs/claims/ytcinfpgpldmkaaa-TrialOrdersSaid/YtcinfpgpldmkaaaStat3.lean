/- Layer 9: more contracts, and the reference's. -/
import Derived.Test.YtcinfpgpldmkaaaStat2
import Derived.Test.YtcinfpgpldmkaaaSame
import Derived.Test.YtcinfpgpldmkaaaRef02c
import Derived.Test.YtcinfpgpldmkaaaLaws02d
namespace Go.Proofs.Ytcinfpgpldmkaaa
open Go.ChangeShapes Go.WideShapes Go.ChangeAt Go.RowKit

theorem same_from' {α : Type} [Inhabited α] {a b : List α} {k : Nat} (hk : k = a.length) (hl : a.length = b.length) (h : ∀ j, j < k → a[j]?.getD default = b[j]?.getD default) : a = b := by
  apply List.ext_getElem hl
  intro i h1 h2
  have := h i (by omega)
  simpa [h1, h2] using this

def Win.from (to width : Int) : Int := Sat.clamp (Sat.clamp (to - width) + 1)

theorem window_from (to width : Int) (ht : I64 to) (hw : I64 width) (w : World) : Calls Try.prog 97 #[.int .i64 to, .int .i64 width] w fun e w' => e = .returned (.int .i64 (Win.from to width)) ∧ w = w' := by
  have h1 := sat_sub to width ht hw
  have h2 := sat_add (Sat.clamp (to - width)) 1 (Sat.clamp_I64 _) (by unfold I64; omega)
  have HE : Hid (Win.from to width = Sat.clamp (Sat.clamp (to - width) + 1)) := rfl
  obtain ⟨a, ea⟩ : ∃ a, a = Sat.clamp (to - width) := ⟨_, rfl⟩
  rw [← ea] at h1 h2 HE
  have H1 := Lib.hid h1
  have H2 := Lib.hid h2
  clear h1 h2 ea ht hw
  go_enter Try.func97, Try.ntmps97
  go_wp2_with (first | ((with_reducible refine (H1.out _).mono ?_); rintro e w1 ⟨rfl, rfl⟩) | ((with_reducible refine (H2.out _).mono ?_); rintro e w1 ⟨rfl, rfl⟩))
  go_ret
  exact ⟨ret_int HE.out.symm, rfl⟩
theorem ref09_from (to width : Int) (ht : I64 to) (hw : I64 width) (w : World) : Calls Try.prog 34 #[.int .i64 to, .int .i64 width] w fun e w' => e = .returned (.int .i64 (Win.from to width)) ∧ w = w' := by
  have h1 := ref_sub to width ht hw
  have h2 := ref_add (Sat.clamp (to - width)) 1 (Sat.clamp_I64 _) (by unfold I64; omega)
  have HE : Hid (Win.from to width = Sat.clamp (Sat.clamp (to - width) + 1)) := rfl
  obtain ⟨a, ea⟩ : ∃ a, a = Sat.clamp (to - width) := ⟨_, rfl⟩
  rw [← ea] at h1 h2 HE
  have H1 := Lib.hid h1
  have H2 := Lib.hid h2
  clear h1 h2 ea ht hw
  go_enter Try.func34, Try.ntmps34
  go_wp2_with (first | ((with_reducible refine (H1.out _).mono ?_); rintro e w1 ⟨rfl, rfl⟩) | ((with_reducible refine (H2.out _).mono ?_); rintro e w1 ⟨rfl, rfl⟩))
  go_ret
  exact ⟨ret_int HE.out.symm, rfl⟩

set_option maxHeartbeats 1000000 in
set_option maxRecDepth 100000 in
theorem window_at (p : Option Addr) (cap : Nat) (l : List Samp) (hin : ∀ a ∈ l, a.In) (hb : l.length ≤ 100000) (to width : Int) (ht : I64 to) (hw : I64 width) (s : Stat) (es : s = Stat.of (Samp.vals (Samp.cut (Win.from to width) to l))) (w : World) (hs : Samps w p l) :
    Calls Try.prog 63 #[.slice p l.length cap, .int .i64 to, .int .i64 width] w fun e w' => e = .returned (.agg #[.int .i64 s.count, .int .i64 s.sum, .int .i64 s.least, .int .i64 s.most, .int .i64 s.mean]) ∧ Below w.heap.size w w' := by
  have h1 := window_from to width ht hw
  obtain ⟨fr, ef⟩ : ∃ f, f = Win.from to width := ⟨_, rfl⟩
  rw [← ef] at h1 es
  have h2 := fun W : World => fun h : Samps W p l => window_cut p cap l fr to hb W h
  have hcin := Samp.cut_In fr to l hin
  have hcl := Samp.cut_len fr to l
  obtain ⟨m, em⟩ : ∃ m, m = Samp.cut fr to l := ⟨_, rfl⟩
  rw [← em] at hcin hcl es
  simp only [← em] at h2
  have h3 := fun (q : Option Addr) (c : Nat) (W : World) (h : Samps W q m) => window_of q c m hcin (by omega) s es W h
  have H1 := Lib.hid h1
  have H2 := Lib.hid h2
  have H3 := Lib.hid h3
  have hs1 : Samps (w.alloc (.cells #[.int .i64 0, .int .i64 0, .int .i64 0, .int .i64 0, .int .i64 0] 89)) p l := hs.below (below1 _ _)
  have HS1 := Lib.hid hs1
  obtain ⟨n, hn⟩ : ∃ n, n = l.length := ⟨_, rfl⟩
  rw [← hn] at hb hcl H2 ⊢
  clear h1 h2 h3 ef em es hcin hs hs1 hn ht hw
  go_enter Try.func63, Try.ntmps63
  go_wp2_with ((with_reducible refine (H1.out _).mono ?_); rintro e w1 ⟨rfl, rfl⟩)
  (with_reducible refine (H2.out _ HS1.out).mono ?_)
  rintro e w1 ⟨u, rfl, hO, hB⟩
  obtain ⟨q, c, rfl, _, hq⟩ := samps_of_owns hO
  have k1 : w1.heap[w.heap.size]? = some (.cells #[.int .i64 0, .int .i64 0, .int .i64 0, .int .i64 0, .int .i64 0] 89 (0, 0)) := by rw [hB.block _ (by simp)]; exact (by first | (with_reducible exact heap_1_0 _ _) | (with_reducible exact heap_2_0 _ _ _) | (with_reducible exact heap_2_1 _ _ _) | (with_reducible exact heap_3_0 _ _ _ _) | (with_reducible exact heap_3_1 _ _ _ _) | (with_reducible exact heap_3_2 _ _ _ _) | (with_reducible exact heap_4_0 _ _ _ _ _) | (with_reducible exact heap_4_1 _ _ _ _ _) | (with_reducible exact heap_4_2 _ _ _ _ _) | (with_reducible exact heap_4_3 _ _ _ _ _) | (with_reducible exact heap_5_0 _ _ _ _ _ _) | (with_reducible exact heap_5_1 _ _ _ _ _ _) | (with_reducible exact heap_5_2 _ _ _ _ _ _) | (with_reducible exact heap_5_3 _ _ _ _ _ _) | (with_reducible exact heap_5_4 _ _ _ _ _ _) | (with_reducible exact heap_6_0 _ _ _ _ _ _ _) | (with_reducible exact heap_6_1 _ _ _ _ _ _ _) | (with_reducible exact heap_6_2 _ _ _ _ _ _ _) | (with_reducible exact heap_6_3 _ _ _ _ _ _ _) | (with_reducible exact heap_6_4 _ _ _ _ _ _ _) | (with_reducible exact heap_6_5 _ _ _ _ _ _ _) | simp only [heap_alloc_past, heap_alloc_at, World.size_alloc, Nat.add_assoc, Nat.reduceAdd, Nat.lt_add_right_iff_pos, Nat.add_lt_add_iff_left, Nat.reduceLT, Nat.zero_lt_succ, Nat.lt_add_one])
  have HB := Lib.hid ((below1 w (.cells #[.int .i64 0, .int .i64 0, .int .i64 0, .int .i64 0, .int .i64 0] 89)).trans (hB.mono (by simp)))
  have HQ := Lib.hid hq
  have K1 := Lib.hid k1
  clear hO hB hq k1 HS1
  go_wp2_with fail
  (with_reducible refine (H3.out _ _ _ HQ.out).mono ?_)
  rintro e w2 ⟨rfl, hb2⟩
  have k1 := (hb2.block _ (lt_of_heap K1.out)).trans K1.out
  have HB2 := Lib.hid (HB.out.trans (hb2.mono HB.out.size))
  have K2 := Lib.hid k1
  clear hb2 k1 HB K1 HQ
  go_wp2_with ((with_reducible refine wpList_store_rowAs rfl 89 _ _ rfl (w.heap.size) #[.int .i64 s.count, .int .i64 s.sum, .int .i64 s.least, .int .i64 s.most, .int .i64 s.mean] ?_ ?_ 89 #[.int .i64 0, .int .i64 0, .int .i64 0, .int .i64 0, .int .i64 0] 5 ?_ (by kernel_rfl) rfl rfl (by simp [Value.oneCell']) ?_); exact rfl; exact rfl; exact K2.out)
  exact bodyPost_ret (results_cell_row rfl _ _ w.heap.size 89 #[.int .i64 s.count, .int .i64 s.sum, .int .i64 s.least, .int .i64 s.most, .int .i64 s.mean] (0, 0) _ rfl (setRow_heap _ _ _ _ _ _ K2.out) Try.underlying89 rfl statInfo) rfl ⟨rfl, below_setRow HB2.out (Nat.le_refl _) _⟩
end Go.Proofs.Ytcinfpgpldmkaaa
