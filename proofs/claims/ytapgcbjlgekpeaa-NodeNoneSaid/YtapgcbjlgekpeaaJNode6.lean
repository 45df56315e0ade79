/- Layer 17: a config; a new node. -/
import Derived.Test.YtapgcbjlgekpeaaJNode5
namespace Go.Proofs.Ytapgcbjlgekpeaa
open Go.ChangeShapes Go.WideShapes Go.ChangeAt Go.RowKit

/-- A config. -/
structure Cfg where
  st : Int
  sa : Int
  lo : Int
  hi : Int
structure Cfg.In (c : Cfg) : Prop where
  st : I64 c.st
  sa : I64 c.sa
  lo : I64 c.lo
  hi : I64 c.hi
structure Cfg.Fine (c : Cfg) : Prop where
  st : 0 ≤ Route.bits c.st
  sa : 1 ≤ c.sa ∧ c.sa ≤ 256
  lo : 1 ≤ c.lo ∧ c.lo ≤ 256
  hi : 1 ≤ c.hi ∧ c.hi ≤ 64
abbrev Cfg.row (c : Cfg) : Array Value := #[.int .i64 c.st, .int .i64 c.sa, .int .i64 c.lo, .int .i64 c.hi]
theorem cfgInfo : (Try.prog.info? 34).map (·.size) = some 4 := by kernel_rfl

set_option maxHeartbeats 1000000 in
theorem node_right (c : Cfg) (hc : c.In) (w : World) : Calls Try.prog 23 #[.agg #[.int .i64 c.st, .int .i64 c.sa, .int .i64 c.lo, .int .i64 c.hi]] w fun e w' => ∃ r : Int, e = .returned (.int .i64 r) ∧ (c.Fine → r = 0) ∧ (¬ c.Fine → r = 1) ∧ Below w.heap.size w w' := by
  have P := Lib.hid (route_right c.st hc.st)
  have HY : Hid ((¬ 0 ≤ Route.bits c.st ∨ c.sa < 1 ∨ 256 < c.sa ∨ c.lo < 1 ∨ 256 < c.lo ∨ c.hi < 1 ∨ 64 < c.hi) → ¬ c.Fine) := fun h g => by rcases h with h | h | h | h | h | h | h <;> (have := g.st; have := g.sa; have := g.lo; have := g.hi; first | exact h g.st | omega)
  have HN : Hid (0 ≤ Route.bits c.st → ¬ c.sa < 1 → ¬ 256 < c.sa → ¬ c.lo < 1 → ¬ 256 < c.lo → ¬ c.hi < 1 → ¬ 64 < c.hi → c.Fine) := fun h0 h1 h2 h3 h4 h5 h6 => ⟨h0, by omega, by omega, by omega⟩
  clear hc
  obtain ⟨st, sa, lo, hi⟩ := c
  simp only at P HY HN
  by_cases hb : 0 ≤ Route.bits st
  · have HB := Lib.hid hb
    rw [decide_eq_true hb] at P
    clear hb
    go_enter Try.func23, Try.ntmps23
    go_wp2_with ((with_reducible refine (P.out _).mono ?_); rintro e w1 ⟨rfl, rfl⟩)
    all_goals go_ret
    all_goals first
      | exact ⟨_, rfl, fun h => absurd h (HY.out (by omega)), fun _ => rfl, below1 _ _⟩
      | exact ⟨_, rfl, fun _ => rfl, fun h => absurd (HN.out HB.out (by omega) (by omega) (by omega) (by omega) (by omega) (by omega)) h, below1 _ _⟩
  · have HB := Lib.hid hb
    rw [decide_eq_false hb] at P
    clear hb
    go_enter Try.func23, Try.ntmps23
    go_wp2_with ((with_reducible refine (P.out _).mono ?_); rintro e w1 ⟨rfl, rfl⟩)
    go_ret
    exact ⟨_, rfl, fun h => absurd h (HY.out (.inl HB.out)), fun _ => rfl, below1 _ _⟩

set_option maxRecDepth 100000 in
theorem node_new_no (c : Cfg) (hc : c.In) (hf : ¬ c.Fine) (w : World) : Calls Try.prog 16 #[.agg #[.int .i64 c.st, .int .i64 c.sa, .int .i64 c.lo, .int .i64 c.hi]] w fun e w' => e = .returned (.pointer none) ∧ Below w.heap.size w w' := by
  have P : Hid (∀ W : World, Calls Try.prog 23 #[.agg #[.int .i64 c.st, .int .i64 c.sa, .int .i64 c.lo, .int .i64 c.hi]] W fun e w' => e = .returned (.int .i64 1) ∧ Below W.heap.size W w') := fun W => (node_right c hc W).mono (by rintro e w' ⟨r, rfl, _, h, hb⟩; rw [h hf]; exact ⟨rfl, hb⟩)
  have K0 : Hid ((w.alloc (.cells c.row 34)).heap[w.heap.size]? = some (.cells c.row 34 (0, 0))) := heap_alloc_at _ _ _ rfl
  clear hc hf
  go_enter Try.func16, Try.ntmps16
  go_wp2_with (first | ((with_reducible refine wpList_load_rowAs rfl 34 _ rfl (w.heap.size) ?_ 34 c.row (0, 0) _ 4 ?_ Try.underlying34 rfl (by kernel_rfl) ?_ ?_); exact rfl; exact K0.out; exact rfl) | fail)
  (with_reducible refine (P.out _).mono ?_)
  rintro e w1 ⟨rfl, hb⟩
  have B1 := Lib.hid ((below1 w (.cells c.row 34)).trans (hb.mono (by simp)))
  clear hb
  go_wp2
  go_ret
  exact ⟨rfl, B1.out⟩

set_option maxHeartbeats 1000000 in
set_option maxRecDepth 100000 in
theorem node_new (c : Cfg) (hc : c.In) (hf : c.Fine) (rs rh : Nat) (hrs : c.sa = rs) (hrh : c.hi = rh) (w : World) : Calls Try.prog 16 #[.agg #[.int .i64 c.st, .int .i64 c.sa, .int .i64 c.lo, .int .i64 c.hi]] w fun e w' => ∃ j : NI, e = .returned j.ptr ∧ NodeAt w' w.heap.size j rs rh false NS.zero ∧ Below w.heap.size w w' := by
  have P : Hid (∀ W : World, Calls Try.prog 23 #[.agg #[.int .i64 c.st, .int .i64 c.sa, .int .i64 c.lo, .int .i64 c.hi]] W fun e w' => e = .returned (.int .i64 0) ∧ Below W.heap.size W w') := fun W => (node_right c hc W).mono (by rintro e w' ⟨r, rfl, h, _, hb⟩; rw [h hf]; exact ⟨rfl, hb⟩)
  have S1 := Lib.hid (ser_new rs (by have := hf.sa; omega) (by have := hf.sa; omega))
  have S2 := Lib.hid (hist_new rh (by have := hf.hi; omega) (by have := hf.hi; omega))
  obtain ⟨st, sa, lo, hi⟩ := c
  simp only at hrs hrh P
  subst hrs hrh
  clear hc hf
  have K0 : Hid ((w.alloc (.cells #[.int .i64 st, .int .i64 rs, .int .i64 lo, .int .i64 rh] 34)).heap[w.heap.size]? = some (.cells #[.int .i64 st, .int .i64 rs, .int .i64 lo, .int .i64 rh] 34 (0, 0))) := heap_alloc_at _ _ _ rfl
  go_enter Try.func16, Try.ntmps16
  go_wp2_with (first | ((with_reducible refine wpList_load_rowAs rfl 34 _ rfl (w.heap.size) ?_ 34 #[.int .i64 st, .int .i64 rs, .int .i64 lo, .int .i64 rh] (0, 0) _ 4 ?_ Try.underlying34 rfl (by kernel_rfl) ?_ ?_); exact rfl; exact K0.out; exact rfl) | fail)
  (with_reducible refine (P.out _).mono ?_)
  rintro e w1 ⟨rfl, hb⟩
  have B1 := Lib.hid ((below1 w (.cells #[.int .i64 st, .int .i64 rs, .int .i64 lo, .int .i64 rh] 34)).trans (hb.mono (by simp)))
  have K1 := Lib.hid ((hb.block _ (lt_of_heap K0.out)).trans K0.out)
  clear hb K0 P
  go_wp2_with fail
  have hst := stab_and (stab_heap w.heap.size (.cells #[.int .i64 st, .int .i64 rs, .int .i64 lo, .int .i64 rh] 34 (0, 0))) (stab_below (B := w.heap.size) (w0 := w) (Nat.le_refl _))
  refine wp_region_E mixed [] hst ⟨K1.out, below_drew B1.out⟩ ?_
  refine wpAnyE_take 0 (v := .pointer (some ⟨w.heap.size, 1, none⟩)) rfl (by kernel_rfl) (by kernel_rfl) (by kernel_rfl) (fun _ _ _ h => h) hst (EffB.run rfl rfl (fun wd hS => ?_)) (.inr (EffB.run rfl rfl (fun wd hS => ?_))) ?_
  · (go_wp2; exact ⟨rfl, Below.refl _ _⟩)
  · (go_wp2; exact ⟨rfl, Below.refl _ _⟩)
  simp only [act_norm]
  refine wpAnyE_take 1 (v := .int .i64 rs) rfl (by kernel_rfl) (by kernel_rfl) (by kernel_rfl) (fun _ _ _ h => h) hst (EffB.run rfl rfl (fun wd hS => ?_)) (.inl (by kernel_rfl)) ?_
  · (have c2 : wd.cell? ⟨w.heap.size, 1, none⟩ = some (.int .i64 rs) := by rw [cell_of_row _ _ _ _ _ _ hS.1]; rfl); go_wp2; exact ⟨rfl, Below.refl _ _⟩
  simp only [act_norm]
  refine wpAnyE_take 3 (v := .pointer (some ⟨w.heap.size, 3, none⟩)) rfl (by kernel_rfl) (by kernel_rfl) (by kernel_rfl) (fun _ _ _ h => h) hst (EffB.run rfl rfl (fun wd hS => ?_)) (.inr (EffB.run rfl rfl (fun wd hS => ?_))) ?_
  · (go_wp2; exact ⟨rfl, Below.refl _ _⟩)
  · (go_wp2; exact ⟨rfl, Below.refl _ _⟩)
  simp only [act_norm]
  refine wpAnyE_take 4 (v := .int .i64 rh) rfl (by kernel_rfl) (by kernel_rfl) (by kernel_rfl) (fun _ _ _ h => h) hst (EffB.run rfl rfl (fun wd hS => ?_)) (.inl (by kernel_rfl)) ?_
  · (have c2 : wd.cell? ⟨w.heap.size, 3, none⟩ = some (.int .i64 rh) := by rw [cell_of_row _ _ _ _ _ _ hS.1]; rfl); go_wp2; exact ⟨rfl, Below.refl _ _⟩
  simp only [act_norm]
  refine wpAnyE_one 2 rfl (by kernel_rfl) rfl (fun wd hS => ?_)
  go_wp2_with fail
  (with_reducible refine (S1.out wd).mono ?_)
  rintro e w2 ⟨s2, rfl, hs2, hb2⟩
  have hs3 := hs2.lift hS.2.size
  have hst2 := stab_and hst (stab_ser (B := w.heap.size) (s := s2) (v := .slice none 0 0) (room := rs) (L := []))
  refine ⟨_, ⟨hst _ _ hS hb2, hs3⟩, hst2, (by first | exact fun _ h => h.1 | exact .inr fun _ h => h.1), ?_⟩
  clear hS hs2 hs3 hb2 hst
  try simp only [act_norm]
  have hst := hst2
  clear hst2
  refine wpAnyE_one 5 rfl (by kernel_rfl) rfl (fun wd hS => ?_)
  go_wp2_with fail
  (with_reducible refine (S2.out wd).mono ?_)
  rintro e w3 ⟨h2, r2, rfl, hh2, hb3⟩
  have AP : Hid (s2 < wd.heap.size ∧ wd.heap.size ≤ h2 ∧ wd.heap.size ≤ r2) := ⟨hS.2.lt, hh2.low, hh2.ring.apart.2.1⟩
  obtain ⟨N2, hN2⟩ : ∃ N, N = wd.heap.size := ⟨_, rfl⟩
  rw [← hN2] at AP
  have hh3 := hh2.lift hS.1.2.size
  have hst2 := stab_and hst (stab_hist (B := w.heap.size) (h := h2) (r := r2) (v := .slice none 0 0) (room := rh) (L := []))
  refine ⟨_, ⟨hst _ _ hS hb3, hh3⟩, hst2, (by first | exact fun _ h => h.1 | exact .inr fun _ h => h.1), ?_⟩
  clear hS hh2 hh3 hb3 hst hN2
  try simp only [act_norm]
  have hst := hst2
  clear hst2
  refine wpAnyE_take 6 (v := .agg (NS.zero.row false s2 h2)) rfl (by kernel_rfl) (by kernel_rfl) (by kernel_rfl) (fun _ _ _ h => h) hst (EffB.run rfl rfl (fun wd hS => ?_)) (.inr (EffB.run rfl rfl (fun wd hS => ?_))) ?_
  · (go_wp2; exact ⟨rfl, Below.refl _ _⟩)
  · (go_wp2; exact ⟨rfl, Below.refl _ _⟩)
  simp only [act_norm]
  refine wpAnyE_one 7 rfl (by kernel_rfl) rfl (fun wd hS => ?_)
  have hst2 := stab_and hst (stab_heap wd.heap.size (.cells (NS.zero.row false s2 h2) 142 (0, 0)))
  have Y1 := Lib.hid (And.intro (hst _ _ hS (below1 wd (.cells (NS.zero.row false s2 h2) 142))) (heap_alloc_at wd (.cells (NS.zero.row false s2 h2) 142) wd.heap.size rfl))
  have XL : Hid (s2 < wd.heap.size ∧ h2 < wd.heap.size ∧ r2 < wd.heap.size ∧ w.heap.size ≤ wd.heap.size) := ⟨hS.1.2.lt, lt_of_heap hS.2.row, hS.2.ring.lt.1, hS.1.1.2.size⟩
  clear hS
  go_wp2
  refine ⟨_, Y1.out, hst2, (by first | exact fun _ h => h.1 | exact .inr fun _ h => h.1), ?_⟩
  obtain ⟨X, hX⟩ : ∃ X, wd.heap.size = X := ⟨_, rfl⟩
  rw [hX] at hst2 XL ⊢
  clear Y1 hst hX
  try simp only [act_norm]
  have hst := hst2
  clear hst2
  refine wpAnyE_take 8 rfl (by kernel_rfl) (by kernel_rfl) (by kernel_rfl) (fun _ _ _ h => h) hst (EffB.pure rfl (fun _ => rfl)) (.inr (EffB.pure rfl (fun _ => rfl))) ?_
  simp only [act_norm]
  refine wpAnyE_done (by kernel_rfl) (fun wd hS => ?_) _
  have hno : ∀ k, (Value.slice none 0 0).ownBlock ≠ some k := fun k e => by simp [Value.ownBlock] at e
  have hN : NodeAt wd w.heap.size ⟨X, s2, .slice none 0 0, h2, r2, .slice none 0 0⟩ rs rh false NS.zero := by
    have g1 := XL.out
    have g2 := AP.out
    refine ⟨XL.out.2.2.2, hS.2, hS.1.1.2, hS.1.2, fun k hk => ?_, fun k hk => ?_, fun k hk hk2 => ?_⟩
    · rcases hk with hk | hk
      · have : k = s2 := hk
        show k ≠ X
        omega
      · exact absurd hk (hno k)
    · rcases hk with hk | hk | hk
      · have : k = h2 := hk
        show k ≠ X
        omega
      · have : k = r2 := hk
        show k ≠ X
        omega
      · exact absurd hk (hno k)
    · rcases hk with hk | hk
      · have h1 : k = s2 := hk
        rcases hk2 with hk2 | hk2 | hk2
        · have : k = h2 := hk2
          omega
        · have : k = r2 := hk2
          omega
        · exact absurd hk2 (hno _)
      · exact absurd hk (hno k)
  have HN := Lib.hid hN
  have BF := Lib.hid hS.1.1.1.2
  clear hS hN hst
  go_wp2
  go_ret
  exact ⟨⟨X, s2, .slice none 0 0, h2, r2, .slice none 0 0⟩, rfl, HN.out, BF.out⟩
end Go.Proofs.Ytapgcbjlgekpeaa
