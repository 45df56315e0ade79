/- Decisions as data; what is told of lists of them (layers 14, 15). -/
import Derived.Test.YtildjnibdappnaaMem
import Derived.Test.YtildjnibdappnaaSatSum
import Derived.Test.YtildjnibdappnaaEach
import Derived.Test.YtildjnibdappnaaSlice
namespace Go.Proofs.Ytildjnibdappnaa
open Go.ChangeShapes Go.WideShapes Go.ChangeAt Go.RowKit

/-- A decision: tick, load, want, replicas, why. -/
structure Adv where
  tick : Int
  load : Int
  want : Int
  repl : Int
  why : Int
deriving Inhabited, DecidableEq

def Adv.get (a : Adv) : Nat → Int
  | 0 => a.tick
  | 1 => a.load
  | 2 => a.want
  | 3 => a.repl
  | _ => a.why
def Adv.In (a : Adv) : Prop := I64 a.tick ∧ I64 a.load ∧ I64 a.want ∧ I64 a.repl ∧ I64 a.why

/-- A slice of decisions. -/
def Advs (w : World) (p : Option Addr) (l : List Adv) : Prop := Sl w p l.length 5 (fun j => .int .i64 ((l[j / 5]?.getD default).get (j % 5)))

theorem Advs.below {w w' : World} {p : Option Addr} {l : List Adv} (h : Advs w p l) (hb : Below w.heap.size w w') : Advs w' p l := Sl.below h hb

theorem Advs.cells {w : World} {p : Option Addr} {l : List Adv} (h : Advs w p l) (k : Nat) (hk : k < l.length) :
    ∃ b off, p = some ⟨b, off, none⟩ ∧ b < w.heap.size ∧ w.cell? ⟨b, off + k * 5, none⟩ = some (.int .i64 (l[k]?.getD default).tick) ∧ w.cell? ⟨b, off + k * 5 + 1, none⟩ = some (.int .i64 (l[k]?.getD default).load) ∧
      w.cell? ⟨b, off + k * 5 + 2, none⟩ = some (.int .i64 (l[k]?.getD default).want) ∧ w.cell? ⟨b, off + k * 5 + 3, none⟩ = some (.int .i64 (l[k]?.getD default).repl) ∧ w.cell? ⟨b, off + k * 5 + 4, none⟩ = some (.int .i64 (l[k]?.getD default).why) := by
  obtain ⟨b, off, hp, hb, hc⟩ := Sl.pos h (by omega)
  have key : ∀ i, i < 5 → w.cell? ⟨b, off + k * 5 + i, none⟩ = some (.int .i64 ((l[k]?.getD default).get i)) := by
    intro i hi
    have := hc (k * 5 + i) (by omega)
    rw [← Nat.add_assoc, show (k * 5 + i) / 5 = k by omega, show (k * 5 + i) % 5 = i by omega] at this
    exact this
  exact ⟨b, off, hp, hb, key 0 (by omega), key 1 (by omega), key 2 (by omega), key 3 (by omega), key 4 (by omega)⟩

theorem foldl_next {α β : Type} (f : β → α → β) (b : β) (d : α) (l : List α) (k : Nat) (h : k < l.length) : (l.take (k + 1)).foldl f b = f ((l.take k).foldl f b) (l[k]?.getD d) := by
  rw [List.take_succ_eq_append_getElem h, List.foldl_append, List.getElem?_eq_getElem h]
  rfl

/-- The most that was wanted of those in a time. -/
def Adv.hiStep (lo hi : Int) (s : Int × Bool) (a : Adv) : Int × Bool :=
  if lo < a.tick ∧ a.tick ≤ hi then (if s.2 = true ∧ a.want ≤ s.1 then s else (a.want, true)) else s
def Adv.highest (l : List Adv) (lo hi : Int) : Int × Bool := l.foldl (Adv.hiStep lo hi) (0, false)

theorem Adv.hi_out {lo hi : Int} {s : Int × Bool} {a : Adv} (h : a.tick ≤ lo ∨ hi < a.tick) : Adv.hiStep lo hi s a = s := by
  unfold Adv.hiStep
  rw [if_neg (by omega)]
theorem Adv.hi_keep {lo hi : Int} {s : Int × Bool} {a : Adv} (h : lo < a.tick) (h2 : a.tick ≤ hi) (h3 : s.2 = true) (h4 : a.want ≤ s.1) : Adv.hiStep lo hi s a = s := by
  unfold Adv.hiStep
  rw [if_pos ⟨h, h2⟩, if_pos ⟨h3, h4⟩]
theorem Adv.hi_new {lo hi : Int} {s : Int × Bool} {a : Adv} (h : lo < a.tick) (h2 : a.tick ≤ hi) (h3 : s.2 = false ∨ s.1 < a.want) : Adv.hiStep lo hi s a = (a.want, true) := by
  unfold Adv.hiStep
  rw [if_pos ⟨h, h2⟩, if_neg]
  rintro ⟨x, y⟩
  rcases h3 with h3 | h3
  · rw [h3] at x; cases x
  · omega

set_option maxHeartbeats 1000000 in
set_option maxRecDepth 100000 in
theorem history_highest (p : Option Addr) (cap : Nat) (l : List Adv) (tick hold : Int) (ht : I64 tick) (hh : I64 hold) (hb : l.length ≤ 9223372036854775807) (w : World) (hs : Advs w p l) :
    Calls Try.prog 21 #[.slice p l.length cap, .int .i64 tick, .int .i64 hold] w fun e w' => e = .returned (.tuple #[.int .i64 (Adv.highest l (Sat.clamp (tick - hold)) tick).1, .bool (Adv.highest l (Sat.clamp (tick - hold)) tick).2]) ∧ Below w.heap.size w w' := by
  have hsub := sat_sub tick hold ht hh
  obtain ⟨lo, hlo⟩ : ∃ lo, lo = Sat.clamp (tick - hold) := ⟨_, rfl⟩
  rw [← hlo] at hsub ⊢
  have HS := Lib.hid hs
  have HG : Hid ((l.take l.length).foldl (Adv.hiStep lo tick) (0, false) = Adv.highest l lo tick) := by show _ = _; rw [List.take_length]; rfl
  obtain ⟨r, hr⟩ : ∃ r, r = Adv.highest l lo tick := ⟨_, rfl⟩
  rw [← hr] at HG ⊢
  obtain ⟨n, hn⟩ : ∃ n, n = l.length := ⟨_, rfl⟩
  rw [← hn] at HG hb ⊢
  have HN := Lib.hid hn
  clear hs hr hn hlo ht hh
  go_enter Try.func21, Try.ntmps21
  go_wp2
  go_loopw [8, 9, 14] (fun m f i wr => ∃ k : Nat, k ≤ n ∧ i = .int .i64 k ∧ m = .int .i64 ((l.take k).foldl (Adv.hiStep lo tick) (0, false)).1 ∧ f = .bool ((l.take k).foldl (Adv.hiStep lo tick) (0, false)).2 ∧ Below w.heap.size w wr) (fun _ _ i _ => n - (intOf i).toNat)
  case atStart => exact ⟨0, by omega, rfl, rfl, rfl, Below.refl _ _⟩
  case round =>
    obtain ⟨k, hk, rfl, rfl, rfl, hB⟩ := hrel
    by_cases hlt : k < n
    · have hkl : k < l.length := by have := HN.out; omega
      obtain ⟨b, off, rfl, hbw, c0, c1, c2, c3, c4⟩ := HS.out.cells k hkl
      have HNX := Lib.hid (foldl_next (Adv.hiStep lo tick) (0, false) default l k hkl)
      rw [← hB.cell (p := ⟨b, _, none⟩) hbw] at c0 c1 c2 c3 c4
      obtain ⟨a, ha⟩ : ∃ a, a = l[k]?.getD default := ⟨_, rfl⟩
      rw [← ha] at c0 c1 c2 c3 c4 HNX
      obtain ⟨s, hs⟩ : ∃ s, s = (l.take k).foldl (Adv.hiStep lo tick) (0, false) := ⟨_, rfl⟩
      rw [← hs] at HNX ⊢
      obtain ⟨m, f⟩ := s
      have HB := Lib.hid hB
      clear ha hs hB hkl
      go_wp2_with fail
      obtain ⟨X, hX⟩ : ∃ X, X = wr.heap.size := ⟨_, rfl⟩
      have k0 : Below w.heap.size w (wr.alloc (.cells #[.int .i64 a.tick, .int .i64 a.load, .int .i64 a.want, .int .i64 a.repl, .int .i64 a.why] 24)) := HB.out.alloc HB.out.size _
      have k1 : (wr.alloc (.cells #[.int .i64 a.tick, .int .i64 a.load, .int .i64 a.want, .int .i64 a.repl, .int .i64 a.why] 24)).heap[X]? = some (.cells #[.int .i64 a.tick, .int .i64 a.load, .int .i64 a.want, .int .i64 a.repl, .int .i64 a.why] 24 (0, 0)) := heap_alloc_at _ _ _ hX
      rw [← hX]
      have K0 := Lib.hid k0
      have K1 := Lib.hid k1
      clear hX k0 k1 c0 c1 c2 c3 c4 HB
      generalize wr.alloc (.cells #[.int .i64 a.tick, .int .i64 a.load, .int .i64 a.want, .int .i64 a.repl, .int .i64 a.why] 24) = w2 at *
      have hst : Stab (fun w' => Below w.heap.size w w' ∧ w'.heap[X]? = some (.cells #[.int .i64 a.tick, .int .i64 a.load, .int .i64 a.want, .int .i64 a.repl, .int .i64 a.why] 24 (0, 0))) :=
        stab_and (stab_below (Nat.le_refl _)) (stab_heap _ _)
      by_cases t1 : a.tick ≤ lo
      · have d1 : decide (a.tick ≤ lo) = true := decide_eq_true t1
        have HE := Lib.hid (Adv.hi_out (s := (m, f)) (hi := tick) (a := a) (.inl t1))
        refine wp_region_E mixed [] hst ⟨below_drew K0.out, K1.out⟩ ?_
        refine wpAnyE_take 0 (v := .pointer (some ⟨X, 0, none⟩)) rfl (by kernel_rfl) (by kernel_rfl) (by kernel_rfl) (fun _ _ _ h => h) hst (EffB.run rfl rfl (fun wd hS => ?_)) (.inr (EffB.run rfl rfl (fun wd hS => ?_))) ?_
        · (go_wp2; exact ⟨rfl, Below.refl _ _⟩)
        · (go_wp2; exact ⟨rfl, Below.refl _ _⟩)
        simp only [act_norm]
        refine wpAnyE_take 1 (v := .int .i64 a.tick) rfl (by kernel_rfl) (by kernel_rfl) (by kernel_rfl) (fun _ _ _ h => h) hst (EffB.run rfl rfl (fun wd hS => ?_)) (.inl (by kernel_rfl)) ?_
        · (have c2 : wd.cell? ⟨X, 0, none⟩ = some (.int .i64 a.tick) := by rw [cell_of_row _ _ _ _ _ _ hS.2]; rfl); go_wp2; exact ⟨rfl, Below.refl _ _⟩
        simp only [act_norm]
        refine wpAnyE_take 2 rfl (by kernel_rfl) (by kernel_rfl) (by kernel_rfl) (fun _ _ _ h => h) hst (EffB.pure rfl (fun _ => rfl)) (.inr (EffB.pure rfl (fun _ => rfl))) ?_
        simp only [act_norm]
        refine wpAnyE_take 3 rfl (by kernel_rfl) (by kernel_rfl) (by kernel_rfl) (fun _ _ _ h => h) hst (EffB.pure rfl (fun _ => rfl)) (.inr (EffB.pure rfl (fun _ => rfl))) ?_
        simp only [act_norm]
        refine wpAnyE_take 4 (v := .int .i64 lo) rfl (by kernel_rfl) (by kernel_rfl) (by kernel_rfl) (fun _ _ _ h => h) hst (EffB.run rfl rfl (fun wd hS => ?_)) (.inl (by kernel_rfl)) ?_
        · (go_wp2_with fail; (with_reducible refine (hsub wd).mono ?_); rintro e w'' ⟨rfl, rfl⟩; exact ⟨rfl, Below.refl _ _⟩)
        simp only [act_norm]
        refine wpAnyE_take 5 (v := .bool true) rfl (by kernel_rfl) (by kernel_rfl) (by kernel_rfl) (fun _ _ _ h => h) hst (EffB.run rfl rfl (fun wd hS => ?_)) (.inr (EffB.run rfl rfl (fun wd hS => ?_))) ?_
        · (go_wp2; exact ⟨rfl, Below.refl _ _⟩)
        · (go_wp2; exact ⟨rfl, Below.refl _ _⟩)
        simp only [act_norm]
        refine wpAnyE_take 6 rfl (by kernel_rfl) (by kernel_rfl) (by kernel_rfl) (fun _ _ _ h => h) hst (EffB.pure rfl (fun _ => rfl)) (.inr (EffB.pure rfl (fun _ => rfl))) ?_
        simp only [act_norm]
        refine wpAnyE_take 7 rfl (by kernel_rfl) (by kernel_rfl) (by kernel_rfl) (fun _ _ _ h => h) hst (EffB.skip rfl) (.inr (EffB.skip rfl)) ?_
        simp only [act_norm]
        refine wpAnyE_take 8 rfl (by kernel_rfl) (by kernel_rfl) (by kernel_rfl) (fun _ _ _ h => h) hst (EffB.skip rfl) (.inr (EffB.skip rfl)) ?_
        simp only [act_norm]
        refine wpAnyE_take 9 rfl (by kernel_rfl) (by kernel_rfl) (by kernel_rfl) (fun _ _ _ h => h) hst (EffB.skip rfl) (.inr (EffB.skip rfl)) ?_
        simp only [act_norm]
        refine wpAnyE_take 10 rfl (by kernel_rfl) (by kernel_rfl) (by kernel_rfl) (fun _ _ _ h => h) hst (EffB.skip rfl) (.inr (EffB.skip rfl)) ?_
        simp only [act_norm]
        refine wpAnyE_take 11 (v := .bool true) rfl (by kernel_rfl) (by kernel_rfl) (by kernel_rfl) (fun _ _ _ h => h) hst (EffB.run rfl rfl (fun wd hS => ?_)) (.inr (EffB.run rfl rfl (fun wd hS => ?_))) ?_
        · (go_wp2; exact ⟨rfl, Below.refl _ _⟩)
        · (go_wp2; exact ⟨rfl, Below.refl _ _⟩)
        simp only [act_norm]
        refine wpAnyE_done (by kernel_rfl) (fun wd hS => ?_) _
        have HS2 := Lib.hid hS
        clear hS
        go_wp2
        exact ⟨⟨k + 1, by omega, by go_num, by rw [HNX.out, HE.out], by rw [HNX.out, HE.out], HS2.out.1⟩, by simp [intOf]; omega⟩
      by_cases t2 : tick < a.tick
      · have d1 : decide (a.tick ≤ lo) = false := decide_eq_false t1
        have d2 : decide (tick < a.tick) = true := decide_eq_true t2
        have HE := Lib.hid (Adv.hi_out (s := (m, f)) (lo := lo) (a := a) (.inr t2))
        refine wp_region_E mixed [] hst ⟨below_drew K0.out, K1.out⟩ ?_
        refine wpAnyE_take 0 (v := .pointer (some ⟨X, 0, none⟩)) rfl (by kernel_rfl) (by kernel_rfl) (by kernel_rfl) (fun _ _ _ h => h) hst (EffB.run rfl rfl (fun wd hS => ?_)) (.inr (EffB.run rfl rfl (fun wd hS => ?_))) ?_
        · (go_wp2; exact ⟨rfl, Below.refl _ _⟩)
        · (go_wp2; exact ⟨rfl, Below.refl _ _⟩)
        simp only [act_norm]
        refine wpAnyE_take 1 (v := .int .i64 a.tick) rfl (by kernel_rfl) (by kernel_rfl) (by kernel_rfl) (fun _ _ _ h => h) hst (EffB.run rfl rfl (fun wd hS => ?_)) (.inl (by kernel_rfl)) ?_
        · (have c2 : wd.cell? ⟨X, 0, none⟩ = some (.int .i64 a.tick) := by rw [cell_of_row _ _ _ _ _ _ hS.2]; rfl); go_wp2; exact ⟨rfl, Below.refl _ _⟩
        simp only [act_norm]
        refine wpAnyE_take 2 rfl (by kernel_rfl) (by kernel_rfl) (by kernel_rfl) (fun _ _ _ h => h) hst (EffB.pure rfl (fun _ => rfl)) (.inr (EffB.pure rfl (fun _ => rfl))) ?_
        simp only [act_norm]
        refine wpAnyE_take 3 rfl (by kernel_rfl) (by kernel_rfl) (by kernel_rfl) (fun _ _ _ h => h) hst (EffB.pure rfl (fun _ => rfl)) (.inr (EffB.pure rfl (fun _ => rfl))) ?_
        simp only [act_norm]
        refine wpAnyE_take 4 (v := .int .i64 lo) rfl (by kernel_rfl) (by kernel_rfl) (by kernel_rfl) (fun _ _ _ h => h) hst (EffB.run rfl rfl (fun wd hS => ?_)) (.inl (by kernel_rfl)) ?_
        · (go_wp2_with fail; (with_reducible refine (hsub wd).mono ?_); rintro e w'' ⟨rfl, rfl⟩; exact ⟨rfl, Below.refl _ _⟩)
        simp only [act_norm]
        refine wpAnyE_take 5 (v := .bool false) rfl (by kernel_rfl) (by kernel_rfl) (by kernel_rfl) (fun _ _ _ h => h) hst (EffB.run rfl rfl (fun wd hS => ?_)) (.inr (EffB.run rfl rfl (fun wd hS => ?_))) ?_
        · (go_wp2; exact ⟨rfl, Below.refl _ _⟩)
        · (go_wp2; exact ⟨rfl, Below.refl _ _⟩)
        simp only [act_norm]
        refine wpAnyE_take 6 rfl (by kernel_rfl) (by kernel_rfl) (by kernel_rfl) (fun _ _ _ h => h) hst (EffB.pure rfl (fun _ => rfl)) (.inr (EffB.pure rfl (fun _ => rfl))) ?_
        simp only [act_norm]
        refine wpAnyE_take 7 (v := .pointer (some ⟨X, 0, none⟩)) rfl (by kernel_rfl) (by kernel_rfl) (by kernel_rfl) (fun _ _ _ h => h) hst (EffB.run rfl rfl (fun wd hS => ?_)) (.inr (EffB.run rfl rfl (fun wd hS => ?_))) ?_
        · (go_wp2; exact ⟨rfl, Below.refl _ _⟩)
        · (go_wp2; exact ⟨rfl, Below.refl _ _⟩)
        simp only [act_norm]
        refine wpAnyE_take 8 (v := .int .i64 a.tick) rfl (by kernel_rfl) (by kernel_rfl) (by kernel_rfl) (fun _ _ _ h => h) hst (EffB.run rfl rfl (fun wd hS => ?_)) (.inl (by kernel_rfl)) ?_
        · (have c2 : wd.cell? ⟨X, 0, none⟩ = some (.int .i64 a.tick) := by rw [cell_of_row _ _ _ _ _ _ hS.2]; rfl); go_wp2; exact ⟨rfl, Below.refl _ _⟩
        simp only [act_norm]
        refine wpAnyE_take 9 rfl (by kernel_rfl) (by kernel_rfl) (by kernel_rfl) (fun _ _ _ h => h) hst (EffB.pure rfl (fun _ => rfl)) (.inr (EffB.pure rfl (fun _ => rfl))) ?_
        simp only [act_norm]
        refine wpAnyE_take 10 (v := .bool true) rfl (by kernel_rfl) (by kernel_rfl) (by kernel_rfl) (fun _ _ _ h => h) hst (EffB.run rfl rfl (fun wd hS => ?_)) (.inr (EffB.run rfl rfl (fun wd hS => ?_))) ?_
        · (go_wp2; exact ⟨rfl, Below.refl _ _⟩)
        · (go_wp2; exact ⟨rfl, Below.refl _ _⟩)
        simp only [act_norm]
        refine wpAnyE_take 11 (v := .bool true) rfl (by kernel_rfl) (by kernel_rfl) (by kernel_rfl) (fun _ _ _ h => h) hst (EffB.run rfl rfl (fun wd hS => ?_)) (.inr (EffB.run rfl rfl (fun wd hS => ?_))) ?_
        · (go_wp2; exact ⟨rfl, Below.refl _ _⟩)
        · (go_wp2; exact ⟨rfl, Below.refl _ _⟩)
        simp only [act_norm]
        refine wpAnyE_done (by kernel_rfl) (fun wd hS => ?_) _
        have HS2 := Lib.hid hS
        clear hS
        go_wp2
        exact ⟨⟨k + 1, by omega, by go_num, by rw [HNX.out, HE.out], by rw [HNX.out, HE.out], HS2.out.1⟩, by simp [intOf]; omega⟩
      have d1 : decide (a.tick ≤ lo) = false := decide_eq_false t1
      have d2 : decide (tick < a.tick) = false := decide_eq_false t2
      have HK := Lib.hid (fun h3 h4 => Adv.hi_keep (lo := lo) (hi := tick) (s := (m, f)) (a := a) (by omega) (by omega) h3 h4)
      have HW := Lib.hid (fun h3 => Adv.hi_new (lo := lo) (hi := tick) (s := (m, f)) (a := a) (by omega) (by omega) h3)
      refine wp_region_E mixed [] hst ⟨below_drew K0.out, K1.out⟩ ?_
      refine wpAnyE_take 0 (v := .pointer (some ⟨X, 0, none⟩)) rfl (by kernel_rfl) (by kernel_rfl) (by kernel_rfl) (fun _ _ _ h => h) hst (EffB.run rfl rfl (fun wd hS => ?_)) (.inr (EffB.run rfl rfl (fun wd hS => ?_))) ?_
      · (go_wp2; exact ⟨rfl, Below.refl _ _⟩)
      · (go_wp2; exact ⟨rfl, Below.refl _ _⟩)
      simp only [act_norm]
      refine wpAnyE_take 1 (v := .int .i64 a.tick) rfl (by kernel_rfl) (by kernel_rfl) (by kernel_rfl) (fun _ _ _ h => h) hst (EffB.run rfl rfl (fun wd hS => ?_)) (.inl (by kernel_rfl)) ?_
      · (have c2 : wd.cell? ⟨X, 0, none⟩ = some (.int .i64 a.tick) := by rw [cell_of_row _ _ _ _ _ _ hS.2]; rfl); go_wp2; exact ⟨rfl, Below.refl _ _⟩
      simp only [act_norm]
      refine wpAnyE_take 2 rfl (by kernel_rfl) (by kernel_rfl) (by kernel_rfl) (fun _ _ _ h => h) hst (EffB.pure rfl (fun _ => rfl)) (.inr (EffB.pure rfl (fun _ => rfl))) ?_
      simp only [act_norm]
      refine wpAnyE_take 3 rfl (by kernel_rfl) (by kernel_rfl) (by kernel_rfl) (fun _ _ _ h => h) hst (EffB.pure rfl (fun _ => rfl)) (.inr (EffB.pure rfl (fun _ => rfl))) ?_
      simp only [act_norm]
      refine wpAnyE_take 4 (v := .int .i64 lo) rfl (by kernel_rfl) (by kernel_rfl) (by kernel_rfl) (fun _ _ _ h => h) hst (EffB.run rfl rfl (fun wd hS => ?_)) (.inl (by kernel_rfl)) ?_
      · (go_wp2_with fail; (with_reducible refine (hsub wd).mono ?_); rintro e w'' ⟨rfl, rfl⟩; exact ⟨rfl, Below.refl _ _⟩)
      simp only [act_norm]
      refine wpAnyE_take 5 (v := .bool false) rfl (by kernel_rfl) (by kernel_rfl) (by kernel_rfl) (fun _ _ _ h => h) hst (EffB.run rfl rfl (fun wd hS => ?_)) (.inr (EffB.run rfl rfl (fun wd hS => ?_))) ?_
      · (go_wp2; exact ⟨rfl, Below.refl _ _⟩)
      · (go_wp2; exact ⟨rfl, Below.refl _ _⟩)
      simp only [act_norm]
      refine wpAnyE_take 6 rfl (by kernel_rfl) (by kernel_rfl) (by kernel_rfl) (fun _ _ _ h => h) hst (EffB.pure rfl (fun _ => rfl)) (.inr (EffB.pure rfl (fun _ => rfl))) ?_
      simp only [act_norm]
      refine wpAnyE_take 7 (v := .pointer (some ⟨X, 0, none⟩)) rfl (by kernel_rfl) (by kernel_rfl) (by kernel_rfl) (fun _ _ _ h => h) hst (EffB.run rfl rfl (fun wd hS => ?_)) (.inr (EffB.run rfl rfl (fun wd hS => ?_))) ?_
      · (go_wp2; exact ⟨rfl, Below.refl _ _⟩)
      · (go_wp2; exact ⟨rfl, Below.refl _ _⟩)
      simp only [act_norm]
      refine wpAnyE_take 8 (v := .int .i64 a.tick) rfl (by kernel_rfl) (by kernel_rfl) (by kernel_rfl) (fun _ _ _ h => h) hst (EffB.run rfl rfl (fun wd hS => ?_)) (.inl (by kernel_rfl)) ?_
      · (have c2 : wd.cell? ⟨X, 0, none⟩ = some (.int .i64 a.tick) := by rw [cell_of_row _ _ _ _ _ _ hS.2]; rfl); go_wp2; exact ⟨rfl, Below.refl _ _⟩
      simp only [act_norm]
      refine wpAnyE_take 9 rfl (by kernel_rfl) (by kernel_rfl) (by kernel_rfl) (fun _ _ _ h => h) hst (EffB.pure rfl (fun _ => rfl)) (.inr (EffB.pure rfl (fun _ => rfl))) ?_
      simp only [act_norm]
      refine wpAnyE_take 10 (v := .bool false) rfl (by kernel_rfl) (by kernel_rfl) (by kernel_rfl) (fun _ _ _ h => h) hst (EffB.run rfl rfl (fun wd hS => ?_)) (.inr (EffB.run rfl rfl (fun wd hS => ?_))) ?_
      · (go_wp2; exact ⟨rfl, Below.refl _ _⟩)
      · (go_wp2; exact ⟨rfl, Below.refl _ _⟩)
      simp only [act_norm]
      refine wpAnyE_take 11 (v := .bool false) rfl (by kernel_rfl) (by kernel_rfl) (by kernel_rfl) (fun _ _ _ h => h) hst (EffB.run rfl rfl (fun wd hS => ?_)) (.inr (EffB.run rfl rfl (fun wd hS => ?_))) ?_
      · (go_wp2; exact ⟨rfl, Below.refl _ _⟩)
      · (go_wp2; exact ⟨rfl, Below.refl _ _⟩)
      simp only [act_norm]
      refine wpAnyE_done (by kernel_rfl) (fun wd hS => ?_) _
      have HS2 := Lib.hid hS
      have c2 : wd.cell? ⟨X, 2, none⟩ = some (.int .i64 a.want) := by rw [cell_of_row _ _ _ _ _ _ hS.2]; rfl
      clear hS
      cases f with
      | false =>
        have HE := Lib.hid (HW.out (.inl rfl))
        clear HK HW
        go_wp2
        exact ⟨⟨k + 1, by omega, by go_num, by rw [HNX.out, HE.out], by rw [HNX.out, HE.out], HS2.out.1⟩, by simp [intOf]; omega⟩
      | true =>
        by_cases t3 : m < a.want
        · have HE := Lib.hid (HW.out (.inr t3))
          clear HK HW
          go_wp2
          exact ⟨⟨k + 1, by omega, by go_num, by rw [HNX.out, HE.out], by rw [HNX.out, HE.out], HS2.out.1⟩, by simp [intOf]; omega⟩
        · have HE := Lib.hid (HK.out rfl (by simp only; omega))
          clear HK HW
          go_wp2
          exact ⟨⟨k + 1, by omega, by go_num, by rw [HNX.out, HE.out], by rw [HNX.out, HE.out], HS2.out.1⟩, by simp [intOf]; omega⟩
    · obtain rfl : k = n := by omega
      rw [HG.out]
      go_wp2
      go_ret2
      exact ⟨rfl, hB⟩
end Go.Proofs.Ytildjnibdappnaa
