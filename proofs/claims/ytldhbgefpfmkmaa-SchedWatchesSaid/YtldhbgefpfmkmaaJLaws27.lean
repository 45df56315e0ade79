/- Layer 27: the law, walked: whose turn any pick is. -/
import Derived.Test.YtldhbgefpfmkmaaJSched8
import Derived.Test.YtldhbgefpfmkmaaJRingB
import Derived.Test.YtldhbgefpfmkmaaJNone
namespace Go.Proofs.Ytldhbgefpfmkmaa
open Go.ChangeShapes Go.WideShapes Go.ChangeAt Go.RowKit

theorem ints_of_row {w : World} {g : Nat} {L : List Int} {t : TypeId} (h : w.heap[g]? = some (.cells (intRow L) t (0, 0))) : Ints .i64 w (some ⟨g, 0, none⟩) L := by
  refine .inr ⟨g, 0, rfl, lt_of_heap h, fun j hj => ?_⟩
  rw [Nat.zero_add, cell_of_row _ _ _ _ _ _ h, intRow_get L j (by omega)]
theorem sched_next_nil (pick : Int) (w : World) : Calls Try.prog 47 #[.slice none 0 0, .int .i64 pick] w fun e w' => e = .returned (.int .i64 (-1)) ∧ w = w' := by
  go_enter Try.func47, Try.ntmps47
  go_wp2
  go_loopw [10] (fun i wr => i = .int .i64 0 ∧ w = wr) (fun _ _ => 0)
  case atStart => exact ⟨rfl, rfl⟩
  case round =>
    obtain ⟨rfl, rfl⟩ := hrel
    go_wp2
    go_ret
    exact ⟨rfl, rfl⟩

def Tk.ex : List Toy := [⟨1, 0, 0⟩, ⟨2, 0, 0⟩]
theorem Tk.ex_in : ∀ i, i < 3 → (Tk.ex[i]?.getD default).In ∧ 0 ≤ (Tk.ex[i]?.getD default).phase ∧ (Tk.ex[i]?.getD default).phase ≤ 1000 := by
  intro i hi
  have : i = 0 ∨ i = 1 ∨ i = 2 := by omega
  rcases this with rfl | rfl | rfl <;> (unfold Toy.In I64; decide)
theorem Tk.ex_run : (Tk.at 3 ((0 : Nat) : Int) (fun i => Tk.ex[i]?.getD default) [-1, 0, 0, 5, 5] 5).r = 3 ∧ (Tk.at 3 ((0 : Nat) : Int) (fun i => Tk.ex[i]?.getD default) [-1, 0, 0, 5, 5] 5).st = [1, 2, 0] ∧ Tk.stuck 3 (Tk.at 3 ((0 : Nat) : Int) (fun i => Tk.ex[i]?.getD default) [-1, 0, 0, 5, 5] 5).T (((0 : Nat) : Int) + ((Tk.at 3 ((0 : Nat) : Int) (fun i => Tk.ex[i]?.getD default) [-1, 0, 0, 5, 5] 5).r : Nat)) = false := by decide +kernel

set_option maxHeartbeats 4000000 in
set_option maxRecDepth 100000 in
theorem awake27 (w : World) : Calls Try.prog 36 #[] w fun e w' => e = .returned (.bool true) ∧ Below w.heap.size w w' := by
  obtain ⟨W0, hW0⟩ : ∃ W, W = w.alloc (.cells #[.int .i64 1, .int .i64 0, .int .i64 0, .int .i64 2, .int .i64 0, .int .i64 0] 157) := ⟨_, rfl⟩
  have hA : Toys W0 (some ⟨w.heap.size, 0, none⟩) Tk.ex := by
    rw [hW0]
    refine .inr ⟨w.heap.size, 0, rfl, by simp, fun j hj => ?_⟩
    have hj5 : j < 6 := hj
    rw [cell_of_row _ _ _ _ _ _ (heap_alloc_at w _ _ rfl)]
    have : j = 0 ∨ j = 1 ∨ j = 2 ∨ j = 3 ∨ j = 4 ∨ j = 5 := by omega
    rcases this with rfl | rfl | rfl | rfl | rfl | rfl <;> rfl
  have TK := Lib.hid (law27_tasks (some ⟨w.heap.size, 0, none⟩) 2 2 Tk.ex rfl (by omega) W0 hA)
  have B0 : Hid (Below w.heap.size w W0) := by show Below _ _ _; rw [hW0]; exact below1 _ _
  obtain ⟨er, est, esk⟩ := Tk.ex_run
  have ER := Lib.hid er
  have EST := Lib.hid est
  have ESK := Lib.hid esk
  clear hA er est esk
  go_enter Try.func36, Try.ntmps36
  go_wp2_with fail
  rw [← hW0]
  clear hW0
  (with_reducible refine TK.out.mono ?_)
  rintro e w1 ⟨p1, c1, b, rfl, hM⟩
  have MM := Lib.hid hM
  have hsz1 : W0.heap.size + 1 ≤ w1.heap.size := lt_of_heap hM.clock
  clear hM TK
  go_wp2_with (at_builtin; refine wpList_append_new2 rfl _ _ 76 rfl _ _ 165 rfl (W0.heap.size + 1) 165 .nilIface 1 16 Try.underlying76 taskInfo rfl (by decide) (.slice p1 2 c1) 2 ((List.range 2).map (fun i => Tk.val (some (b i)))) rfl MM.out.own rfl rfl (by intro v hv; simp at hv; subst hv; rfl) (by unfold maxLen; omega) (by omega) hsz1 ?_; intro u8 x8 ha8 hg8 hb8 hw8; obtain ⟨p8, c8, e8, hcc8, _⟩ := ha8.sl; have HA8 := Lib.hid ha8; have HG8 := Lib.hid hg8; have HB8 := Lib.hid hb8; have HW8 := Lib.hid hw8; subst e8; clear ha8 hg8 hb8 hw8)
  have hold : ∀ y o, w1.heap[y]? = some o → (Value.slice p1 2 c1).ownBlock ≠ some y → x8.heap[y]? = some o := fun y o ho hne => (HG8.out.block _ (lt_of_heap ho) (fun e => hne e.symm)).trans ho
  have hown8 : ∀ ad, p8 = some ad → (Value.slice p8 3 c8).ownBlock = some ad.block := fun ad had => by subst had; rfl
  have hT8 : Tasks x8 p8 3 (fun i => if i < 2 then some (b i) else none) (fun i => Tk.ex[i]?.getD default) W0.heap.size ((0 : Nat) : Int) := by
    have hoff8 : ∀ i, i < 2 → (Value.slice p8 3 c8).ownBlock ≠ some (b i) := fun i hi e => by
      rcases HW8.out with g | g
      · exact MM.out.off i hi (g ▸ e)
      · have := g _ e; have := lt_of_heap (MM.out.toy i hi); omega
    refine ⟨?_, fun i b' hi e => ?_, hold _ _ MM.out.clock (fun e => by have := (MM.out.own.lt _ e).1; omega), fun i j b' hi hj e1 e2 => ?_, fun i b' hi e => ?_, fun ad had hc => ?_, fun i hi e => ?_⟩
    · obtain ⟨p', c', e', _, _, hsl, _⟩ := HA8.out.sl
      simp only [Value.slice.injEq] at e'
      obtain ⟨rfl, _, rfl⟩ := e'
      rcases hsl with h0 | ⟨b2, off, e2, hb, hc⟩
      · omega
      · refine .inr ⟨b2, off, e2, hb, fun j hj => ?_⟩
        rw [hc j hj]
        have : j = 0 ∨ j = 1 ∨ j = 2 := by omega
        rcases this with rfl | rfl | rfl <;> rfl
    · by_cases h2 : i < 2
      · simp only [if_pos h2, Option.some.injEq] at e
        subst e
        exact hold _ _ (MM.out.toy i h2) (MM.out.off i h2)
      · simp only [if_neg h2] at e; cases e
    · by_cases h2 : i < 2
      · by_cases h3 : j < 2
        · simp only [if_pos h2, if_pos h3, Option.some.injEq] at e1 e2
          rcases Nat.lt_trichotomy i j with g | g | g
          · have := MM.out.inc i j g h3; omega
          · exact g
          · have := MM.out.inc j i g h2; omega
        · simp only [if_neg h3] at e2; cases e2
      · simp only [if_neg h2] at e1; cases e1
    · by_cases h2 : i < 2
      · simp only [if_pos h2, Option.some.injEq] at e
        subst e
        exact ⟨by have := MM.out.lo i h2; omega, fun ad had e => hoff8 i h2 (by rw [hown8 ad had, e])⟩
      · simp only [if_neg h2] at e; cases e
    · have := (HA8.out.lt _ (hown8 ad had)).1; omega
    · have h2 : ¬ i < 2 := fun h2 => by simp only [if_pos h2] at e; cases e
      obtain rfl : i = 2 := by omega
      decide
  obtain ⟨W9, hW9⟩ : ∃ W, W = x8.alloc (.cells #[.int .i64 (-1), .int .i64 0, .int .i64 0, .int .i64 5, .int .i64 5] 3) := ⟨_, rfl⟩
  obtain ⟨Y, hY⟩ : ∃ Y, x8.heap.size = Y := ⟨_, rfl⟩
  have hs9 : W9.heap.size = Y + 1 := by rw [hW9, ← hY]; simp
  have hT9 : Tasks W9 p8 3 (fun i => if i < 2 then some (b i) else none) (fun i => Tk.ex[i]?.getD default) W0.heap.size ((0 : Nat) : Int) := by rw [hW9]; exact hT8.below (below1 _ _)
  have hI9 : Ints .i64 W9 (some ⟨Y, 0, none⟩) [-1, 0, 0, 5, 5] := by rw [hW9, ← hY]; exact ints_alloc x8 [-1, 0, 0, 5, 5] _ _ rfl
  have hlt8 := hT8.lt
  have P := sched_run 0 hT9 Tk.ex_in (by omega) (by omega) c8 (some ⟨Y, 0, none⟩) 5 5 [-1, 0, 0, 5, 5] rfl (by omega) (by intro x hx; simp at hx; rcases hx with rfl | rfl | rfl <;> simp [I64]) hI9 (fun _ ad had hh => by cases had; have := hlt8 _ hh; rw [hY] at this; exact absurd this (by show ¬ Y < Y; omega)) (fun k hk ad had e => by have := (HA8.out.lt _ (hown8 ad had)).2; omega)
  rw [ESK.out, EST.out, ER.out, hs9] at P
  have P := Lib.hid P
  have hof : ∀ k, Tk.of 3 (fun i => if i < 2 then some (b i) else none) W0.heap.size k → w.heap.size ≤ k := by
    rintro k (rfl | ⟨i, hi, e⟩)
    · exact B0.out.size
    · by_cases h2 : i < 2
      · simp only [if_pos h2, Option.some.injEq] at e
        subst e
        have := MM.out.lo i h2
        have := B0.out.size
        omega
      · simp only [if_neg h2] at e; cases e
  have hb9 : Below w.heap.size w W9 := by
    have h1 := (B0.out.trans (MM.out.below.mono B0.out.size)).trans (HB8.out.mono (by have := B0.out.size; omega))
    rw [hW9]
    exact h1.alloc h1.size _
  have HB9 := Lib.hid hb9
  have HOF := Lib.hid hof
  have HY := Lib.hid hs9
  rw [← hW9, hY]
  clear hold hown8 hT8 hW9 hY hT9 hI9 hlt8 hof hb9 MM HA8 HG8 HB8 HW8 ER EST ESK B0 hs9 hsz1
  (with_reducible refine P.out.mono ?_)
  rintro e w2 ⟨rfl, _, ht2, hst2⟩
  have B2 := Lib.hid (HB9.out.trans (ht2.below HOF.out HB9.out.size))
  have I2 := Lib.hid (ints_of_row hst2)
  clear ht2 hst2 P HB9
  have M3 := Lib.hid (((Mem.start w).below.trans B2.out |> fun h => (⟨h, fun _ _ _ h => by simp at h, fun _ _ _ _ _ h => by simp at h, fun _ _ _ h => by simp at h⟩ : Mem w w2 [])).alloc (.cells #[.int .i64 3, .slice (some ⟨Y + 1 + 2, 0, none⟩) 3 3, .bool false] 81))
  have r0 := M3.out.cell 0 0 rfl rfl
  have r1 := M3.out.cell 0 1 rfl rfl
  have r2 := M3.out.cell 0 2 rfl rfl
  have I3 := Lib.hid (Sl.below I2.out (below1 w2 (.cells #[.int .i64 3, .slice (some ⟨Y + 1 + 2, 0, none⟩) 3 3, .bool false] 81)))
  have F1 : Hid (∀ w, Calls Try.prog 45 #[.int .i64 (-1), .int .i64 3] w fun e w' => e = .returned (.int .i64 2) ∧ w = w') := fun w => sched_first (-1) ⟨by omega, by omega⟩ 3 (by omega) w
  have F2 := Lib.hid (sched_next_nil 3)
  clear B2 I2
  go_wp2_with (first | ((with_reducible refine (F1.out _).mono ?_); rintro e w3 ⟨rfl, rfl⟩) | ((with_reducible refine (F2.out _).mono ?_); rintro e w3 ⟨rfl, rfl⟩))
  have M4 := Lib.hid (M3.out.alloc (.cells #[.int .i64 1, .int .i64 2, .int .i64 0] 3))
  have I4 : Ints .i64 ((w2.alloc (.cells #[.int .i64 3, .slice (some ⟨Y + 1 + 2, 0, none⟩) 3 3, .bool false] 81)).alloc (.cells #[.int .i64 1, .int .i64 2, .int .i64 0] 3)) (some ⟨w2.heap.size + 1, 0, none⟩) [1, 2, 0] := by
    have := ints_alloc (w2.alloc (.cells #[.int .i64 3, .slice (some ⟨Y + 1 + 2, 0, none⟩) 3 3, .bool false] 81)) [1, 2, 0] 3 _ rfl
    rwa [World.size_alloc] at this
  have P5 := ref07_same (some ⟨Y + 1 + 2, 0, none⟩) (some ⟨w2.heap.size + 1, 0, none⟩) 3 3 [1, 2, 0] [1, 2, 0] _ (Sl.below I3.out (below1 _ _)) I4 (by simp) (by simp)
  rw [decide_eq_true rfl, show ([1, 2, 0] : List Int).length = 3 from rfl] at P5
  have P5 := Lib.hid P5
  clear I4 I3 M3
  (with_reducible refine P5.out.mono ?_)
  rintro e w4 ⟨rfl, hb4⟩
  have M5 := Lib.hid (M4.out.call hb4)
  have r5 := M5.out.cell 0 2 rfl rfl
  have HB := Lib.hid M5.out.below
  clear hb4 M4 P5
  go_wp2
  go_ret
  exact ⟨rfl, HB.out⟩

set_option maxHeartbeats 2000000 in
set_option maxRecDepth 100000 in
theorem schedNext_walk (q : Option Addr) (cap : Nat) (l : List Toy) (hl : ∀ a ∈ l, a.In) (hb : l.length ≤ 9223372036854775807) (pick : Int) (hp : I64 pick) (k : Int) (hk : I64 k) (w : World) (hs : Toys w q l) :
    Calls Try.prog 9 #[.slice q l.length cap, .int .i64 pick, .int .i64 k] w fun e w' => e = .returned (.bool true) ∧ Below w.heap.size w w' := by
  obtain ⟨n, en⟩ : ∃ n, n = l.length := ⟨_, rfl⟩
  have FW := Lib.hid (fun W h => law27_few q n cap l en.symm (by omega) none 0 0 (by omega) W h)
  rw [← en] at hb ⊢
  have HS := Lib.hid hs
  cases hf : Tk.few l 0 with
  | false =>
    rw [hf] at FW
    clear hf en hs hl
    go_enter Try.func9, Try.ntmps9
    go_wp2_with fail
    (with_reducible refine (awake27 _).mono ?_)
    rintro e w1 ⟨rfl, hb1⟩
    have B1 := Lib.hid hb1
    clear hb1
    go_wp2_with fail
    (with_reducible refine (FW.out _ (HS.out.below B1.out)).mono ?_)
    rintro e w2 ⟨rfl, hb2⟩
    have B2 := Lib.hid (B1.out.trans (hb2.mono B1.out.size))
    clear hb2
    go_wp2
    go_ret
    exact ⟨rfl, B2.out⟩
  | true =>
    rw [hf] at FW
    obtain ⟨hn, _, hph⟩ := Tk.few_of hf
    rw [← en] at hn hph
    have hT : ∀ i, i < n → (l[i]?.getD default).In ∧ 0 ≤ (l[i]?.getD default).phase ∧ (l[i]?.getD default).phase ≤ 1000 := fun i hi => ⟨by rw [List.getElem?_eq_getElem (by omega)]; exact hl _ (List.getElem_mem _), (hph i hi).1, (hph i hi).2.1⟩
    have hfine : Tk.Fine n (fun i => l[i]?.getD default) (0 : Int) := ⟨fun i hi => (hT i hi).1, fun i hi => (hT i hi).2, by omega, by omega⟩
    have TK := Lib.hid (fun W h => law27_tasks q n cap l en.symm (by omega) W h)
    have RN := fun W h => ref27_next (cap := cap) (w := W) (q := q) h en.symm (0 : Int) hfine (by omega) pick hp
    have HFN := Lib.hid hfine
    have EN := Lib.hid en
    obtain ⟨y, ey⟩ : ∃ y, y = Tk.next n (fun i => l[i]?.getD default) (0 : Int) pick := ⟨_, rfl⟩
    simp only [← ey] at RN
    have EY := Lib.hid ey
    have RN := Lib.hid RN
    have HP := Lib.hid hp
    clear hf en hs hl hph hT hfine ey
    have hFF : ∃ v : Int, (∀ w, Calls Try.prog 45 #[.int .i64 pick, .int .i64 k] w fun e w' => e = .returned (.int .i64 v) ∧ w = w') ∧ (∀ w, Calls Try.prog 46 #[.int .i64 pick, .int .i64 k] w fun e w' => e = .returned (.int .i64 v) ∧ w = w') := by
      by_cases h : 0 ≤ k
      · obtain ⟨kn, rfl⟩ : ∃ n : Nat, k = n := ⟨k.toNat, by omega⟩
        have := hk.2
        exact ⟨_, sched_first pick HP.out kn (by omega), ref27_first pick HP.out kn (by omega)⟩
      · have hk1 : k < 1 := by omega
        refine ⟨-1, fun w => ?_, fun w => ?_⟩
        · go_enter Try.func45, Try.ntmps45
          go_wp2
          go_ret
          exact ⟨rfl, rfl⟩
        · go_enter Try.func46, Try.ntmps46
          go_wp2
          go_ret
          exact ⟨rfl, rfl⟩
    obtain ⟨v, F1, F2⟩ := hFF
    have F1 := Lib.hid F1
    have F2 := Lib.hid F2
    clear hk
    go_enter Try.func9, Try.ntmps9
    go_wp2_with fail
    (with_reducible refine (awake27 _).mono ?_)
    rintro e w1 ⟨rfl, hb1⟩
    have B1 := Lib.hid hb1
    clear hb1
    go_wp2_with fail
    (with_reducible refine (FW.out _ (HS.out.below B1.out)).mono ?_)
    rintro e w2 ⟨rfl, hb2⟩
    have B2 := Lib.hid (B1.out.trans (hb2.mono B1.out.size))
    clear hb2
    go_wp2_with fail
    (with_reducible refine (TK.out _ (HS.out.below B2.out)).mono ?_)
    rintro e w3 ⟨p3, c3, b3, rfl, hM3⟩
    have T3 := Lib.hid hM3.tasks.1
    have B3 := Lib.hid (B2.out.trans (hM3.below.mono B2.out.size))
    have N3 := sched_next T3.out HFN.out (by omega) c3 pick HP.out
    rw [← EY.out] at N3
    have N3 := Lib.hid N3
    clear hM3
    go_wp2_with (first | ((with_reducible refine (F1.out _).mono ?_); rintro e w4 ⟨rfl, rfl⟩) | ((with_reducible refine (F2.out _).mono ?_); rintro e w4 ⟨rfl, rfl⟩))
    (with_reducible refine N3.out.mono ?_)
    rintro e w5 ⟨rfl, hb5⟩
    have B5 := Lib.hid (B3.out.trans (hb5.mono B3.out.size))
    clear hb5
    go_wp2_with fail
    (with_reducible refine (RN.out _ (HS.out.below B5.out)).mono ?_)
    rintro e w6 ⟨rfl, hb6⟩
    have B6 := Lib.hid (B5.out.trans (hb6.mono B5.out.size))
    clear hb6
    go_wp2
    go_ret
    exact ⟨rfl, B6.out⟩
end Go.Proofs.Ytldhbgefpfmkmaa
