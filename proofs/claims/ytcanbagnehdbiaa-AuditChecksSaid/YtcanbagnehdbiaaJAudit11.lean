/- Layer 48: how many have each rule: audit.Counts; the rules as a list. -/
import Derived.Test.YtcanbagnehdbiaaJAudit9
namespace Go.Proofs.Ytcanbagnehdbiaa
open Go.ChangeShapes Go.WideShapes Go.ChangeAt Go.RowKit

theorem Mem.swap {w w' : World} {a b c : Nat × Obj} (h : Mem w w' [a, b, c]) : Mem w w' [a, c, b] := by
  have hf : ∀ i, ∃ j, [a, c, b][i]? = [a, b, c][j]? ∧ (i = 0 ∧ j = 0 ∨ i = 1 ∧ j = 2 ∨ i = 2 ∧ j = 1 ∨ 3 ≤ i ∧ j = i) := fun i => by
    match i with
    | 0 => exact ⟨0, rfl, .inl ⟨rfl, rfl⟩⟩
    | 1 => exact ⟨2, rfl, .inr (.inl ⟨rfl, rfl⟩)⟩
    | 2 => exact ⟨1, rfl, .inr (.inr (.inl ⟨rfl, rfl⟩))⟩
    | i + 3 => exact ⟨i + 3, rfl, .inr (.inr (.inr ⟨by omega, rfl⟩))⟩
  refine ⟨h.below, fun i b o hi => ?_, fun i j b o o' hi hj => ?_, fun i b o hi => ?_⟩
  · obtain ⟨k, e, _⟩ := hf i
    exact h.has k b o (e ▸ hi)
  · obtain ⟨k, e, c1⟩ := hf i
    obtain ⟨k', e', c2⟩ := hf j
    have := h.apart k k' b o o' (e ▸ hi) (e' ▸ hj)
    omega
  · obtain ⟨k, e, _⟩ := hf i
    exact h.own k b o (e ▸ hi)

set_option maxHeartbeats 1000000 in
set_option maxRecDepth 100000 in
theorem audit_counts (p : Pol) (hp : p.In) (q : Option Addr) (cap : Nat) (l : List Adv) (hl : ∀ a ∈ l, a.In) (hb : l.length ≤ 1000) (room : Int) (w : World) (hs : Advs w q l) :
    Calls Try.prog 18 #[.agg #[.int .i64 p.mn, .int .i64 p.mx, .int .i64 p.tg, .int .i64 p.tl, .int .i64 p.wi, .int .i64 p.ho], .slice q l.length cap, .int .i64 room] w fun e w' => e = .returned (.agg (Aud.row6 (Aud.cnt (Aud.at p room l) l.length))) ∧ Below w.heap.size w w' := by
  have M0 : Hid (Mem w (((w.alloc (.cells #[.int .i64 p.mn, .int .i64 p.mx, .int .i64 p.tg, .int .i64 p.tl, .int .i64 p.wi, .int .i64 p.ho] 23)).alloc (.cells #[.int .i64 0, .int .i64 0, .int .i64 0, .int .i64 0, .int .i64 0, .int .i64 0] 30)).alloc (.cells #[.int .i64 0, .int .i64 0, .int .i64 0, .int .i64 0, .int .i64 0, .int .i64 0] 30)) [(w.heap.size, .cells #[.int .i64 p.mn, .int .i64 p.mx, .int .i64 p.tg, .int .i64 p.tl, .int .i64 p.wi, .int .i64 p.ho] 23), (w.heap.size + 1, .cells (Aud.row6 (fun _ => 0)) 30 (0, 0)), (w.heap.size + 2, .cells (Aud.row6 (fun _ => 0)) 30 (0, 0))]) := (((Mem.start w).alloc _).allocAs (w.heap.size + 1) _ (by simp)).allocAs (w.heap.size + 2) _ (by simp)
  have K0 := Lib.hid (M0.out.heap 0 rfl)
  have MS : Hid (Mem w (((w.alloc (.cells #[.int .i64 p.mn, .int .i64 p.mx, .int .i64 p.tg, .int .i64 p.tl, .int .i64 p.wi, .int .i64 p.ho] 23)).alloc (.cells #[.int .i64 0, .int .i64 0, .int .i64 0, .int .i64 0, .int .i64 0, .int .i64 0] 30)).alloc (.cells #[.int .i64 0, .int .i64 0, .int .i64 0, .int .i64 0, .int .i64 0, .int .i64 0] 30)) [(w.heap.size, .cells #[.int .i64 p.mn, .int .i64 p.mx, .int .i64 p.tg, .int .i64 p.tl, .int .i64 p.wi, .int .i64 p.ho] 23), (w.heap.size + 2, .cells (Aud.row6 (fun _ => 0)) 30 (0, 0)), (w.heap.size + 1, .cells (Aud.row6 (fun _ => 0)) 30 (0, 0))]) := M0.out.swap
  have E1 := Lib.hid (each_counts p hp q cap l hl hb room w _ hs (w.heap.size + 2) _ MS.out)
  obtain ⟨n, en⟩ : ∃ n, n = l.length := ⟨_, rfl⟩
  rw [← en] at E1 ⊢
  obtain ⟨r, er⟩ : ∃ r, r = Aud.cnt (Aud.at p room l) n := ⟨_, rfl⟩
  rw [← er] at E1 ⊢
  clear hp hl hb hs en er MS
  go_enter Try.func18, Try.ntmps18
  go_wp2_with ((with_reducible refine wpList_load_rowAs rfl 23 _ rfl (w.heap.size) ?_ 23 #[.int .i64 p.mn, .int .i64 p.mx, .int .i64 p.tg, .int .i64 p.tl, .int .i64 p.wi, .int .i64 p.ho] (0, 0) _ 6 ?_ Try.underlying23 rfl (by kernel_rfl) ?_ ?_); exact rfl; exact K0.out; exact rfl)
  (with_reducible refine E1.out.mono ?_)
  rintro e w1 ⟨rfl, hM1⟩
  have M1 := Lib.hid hM1
  have B1 := Lib.hid (hM1.heap 1 rfl)
  have B0 := Lib.hid (hM1.heap 2 rfl)
  clear hM1 E1 M0 K0
  go_wp2_with (first | ((with_reducible refine wpList_load_rowAs rfl 30 _ rfl ((w.heap.size + 2)) ?_ 30 (Aud.row6 r) (0, 0) _ 6 ?_ Try.underlying30 rfl (by kernel_rfl) ?_ ?_); exact rfl; exact B1.out; exact rfl) | ((with_reducible refine wpList_store_rowAs rfl 30 _ _ rfl ((w.heap.size + 1)) #[.int .i64 (r 0), .int .i64 (r 1), .int .i64 (r 2), .int .i64 (r 3), .int .i64 (r 4), .int .i64 (r 5)] ?_ ?_ 30 #[.int .i64 0, .int .i64 0, .int .i64 0, .int .i64 0, .int .i64 0, .int .i64 0] 6 ?_ (by kernel_rfl) rfl rfl (by simp [Value.oneCell']) ?_); exact rfl; exact rfl; exact B0.out))
  exact bodyPost_ret (results_cell_row rfl _ _ (w.heap.size + 1) 30 (Aud.row6 r) (0, 0) _ rfl (setRow_heap _ _ _ _ _ _ B0.out) Try.underlying30 rfl (by kernel_rfl)) rfl ⟨rfl, below_setRow M1.out.below (by omega) _⟩

theorem Aud.rules_get (p : Pol) (room : Int) (l : List Adv) : ∀ n k, k < n → (Aud.rules p room l n)[k]? = some (Aud.at p room l k)
  | 0, k, h => by omega
  | n + 1, k, h => by
    have hl := Aud.rules_len p room l n
    show (Aud.rules p room l n ++ [Aud.rule p (Aud.kept room l n) (l[n]?.getD default)])[k]? = _
    by_cases e : k = n
    · subst e
      rw [List.getElem?_append_right (by omega), hl, Nat.sub_self]
      rfl
    · rw [List.getElem?_append_left (by omega)]
      exact Aud.rules_get p room l n k (by omega)
theorem Aud.at_bd (p : Pol) (room : Int) (l : List Adv) (k : Nat) : 0 ≤ Aud.at p room l k ∧ Aud.at p room l k ≤ 5 := Aud.rule_bd _ _ _
end Go.Proofs.Ytcanbagnehdbiaa
