/- Layer 23: a queue of ints. -/
import Derived.Test.YtapgcbjlgekpeaaJFifoD
import Derived.Recover
import Derived.Defers
import Derived.Deep.CutRange
namespace Go.Proofs.Ytapgcbjlgekpeaa
open Go.ChangeShapes Go.WideShapes Go.ChangeAt Go.RowKit

theorem fifoI_info : (Try.prog.info? 3).map (fun i => (i.zero, i.size, i.bytes)) = some (some (.int .i64 0), 1, 8) := by kernel_rfl

section
variable {w : World} {B b o : Nat} {cs : Array Value} {T : TypeId} {v : Value} {L : List Int}

theorem fifoI_all (h : QAt w B 1 b o cs T v L.length (intVals L)) : Calls Try.prog 106 #[.pointer (some ⟨b, o, none⟩)] w fun e w' => e = .returned v ∧ w = w' := by
  have c := h.cell
  obtain ⟨p, cap, rfl, _⟩ := h.owns.sl
  clear h
  go_enter Try.func106, Try.ntmps106
  go_wp2
  go_ret
  exact ⟨rfl, rfl⟩
theorem fifoI_len (h : QAt w B 1 b o cs T v L.length (intVals L)) : Calls Try.prog 46 #[.pointer (some ⟨b, o, none⟩)] w fun e w' => e = .returned (.int .i64 L.length) ∧ w = w' := by
  have P := fifoI_all h
  obtain ⟨p, cap, rfl, _⟩ := h.owns.sl
  have P1 := Lib.hid P
  clear h P
  go_enter Try.func46, Try.ntmps46
  go_wp2_with ((with_reducible refine P1.out.mono ?_); rintro e w1 ⟨rfl, rfl⟩)
  go_ret
  exact ⟨rfl, rfl⟩
theorem fifoI_first_no (h : QAt w B 1 b o cs T v L.length (intVals L)) (h0 : L = []) : Calls Try.prog 45 #[.pointer (some ⟨b, o, none⟩)] w fun e w' => e = .returned (.tuple #[.int .i64 0, .bool false]) ∧ w = w' := by
  have P := fifoI_len h
  subst h0
  have P1 := Lib.hid P
  clear h P
  go_enter Try.func45, Try.ntmps45
  go_wp2_with ((with_reducible refine P1.out.mono ?_); rintro e w1 ⟨rfl, rfl⟩)
  go_ret2
  exact ⟨rfl, rfl⟩
theorem fifoI_first {x : Int} {l : List Int} (h : QAt w B 1 b o cs T v L.length (intVals L)) (h0 : L = x :: l) : Calls Try.prog 45 #[.pointer (some ⟨b, o, none⟩)] w fun e w' => e = .returned (.tuple #[.int .i64 x, .bool true]) ∧ w = w' := by
  have P := fifoI_len h
  have c := h.cell
  obtain ⟨g, q, cap, rfl, _, _, _, hc, _⟩ := h.owns.some_of (by rw [h0]; simp)
  subst h0
  have c1 := hc 0 (.int .i64 x) rfl
  rw [Nat.add_zero] at c1
  obtain ⟨n, en⟩ : ∃ n, (x :: l).length = n + 1 := ⟨_, rfl⟩
  rw [en] at P c
  have P1 := Lib.hid P
  have d0 : (((n + 1 : Nat) : Int) == 0) = false := beq_eq_false_iff_ne.2 (by omega)
  have d1 : (0 : Int) < ((n + 1 : Nat) : Int) := by omega
  clear h P hc
  go_enter Try.func45, Try.ntmps45
  go_wp2_with ((with_reducible refine P1.out.mono ?_); rintro e w1 ⟨rfl, rfl⟩)
  go_ret2
  exact ⟨rfl, rfl⟩

set_option maxHeartbeats 1000000 in
set_option maxRecDepth 100000 in
theorem fifoI_put (h : QAt w B 1 b o cs T v L.length (intVals L)) (hn : L.length ≤ 100000) (hB : B ≤ w.heap.size) (x : Int) : Calls Try.prog 44 #[.pointer (some ⟨b, o, none⟩), .int .i64 x] w fun e w' => e = .returned (.bool true) ∧ QOf w B 1 b o cs T v (L ++ [x]).length (intVals (L ++ [x])) w' := by
  have c := h.cell
  have hQ := Lib.hid h
  obtain ⟨p, cap, rfl, _⟩ := h.owns.sl
  obtain ⟨n, en⟩ : ∃ n, n = L.length := ⟨_, rfl⟩
  have EN := Lib.hid en
  have O := Lib.hid h.owns
  rw [← en] at c hn O ⊢
  have hmx : n + 1 ≤ maxLen := by unfold maxLen; omega
  have hby : (n + 1) * 8 ≤ 140737488355328 := by omega
  clear h en
  go_enter Try.func44, Try.ntmps44
  go_wp2_with (at_builtin; refine wpList_append_O rfl _ _ 77 rfl _ _ 3 rfl 1 B 3 (.int .i64 0) 1 8 Try.underlying77 fifoI_info rfl (by decide) (.slice p n cap) n (intVals L) rfl O.out rfl rfl (by simp [Value.oneCell']) hmx hby hB ?_; intro u1 x1 ha1 hg1 hc1 hw1; obtain ⟨p1, d1, rfl, _⟩ := ha1.sl; have k1 := (hg1.block b hQ.out.lt (fun e => hQ.out.apart (by rw [← EN.out]; exact e.symm))).trans hQ.out.row; have c3 : x1.cell? ⟨b, o, none⟩ = some (.slice p n cap) := (by rw [cell_of_row _ _ _ _ _ _ k1, hQ.out.item, ← EN.out]); have g3 := frozen_of_row x1 b o _ _ k1; have HA := Lib.hid ha1; have HG := Lib.hid hg1; have HW := Lib.hid hw1; have HK := Lib.hid k1; clear ha1 hg1 hc1 hw1 k1)
  go_ret
  have hap : (Value.slice p1 (n + 1) d1).ownBlock ≠ some b := by
    rcases HW.out with hw | hw
    · rw [hw, EN.out]; exact hQ.out.apart
    · intro e; have := hw b e; have := hQ.out.lt; omega
  refine ⟨rfl, _, QAt.put HK.out hQ.out.size ?_ hap, (Turned.refl.grown HG.out (fun k hk _ => .inr hk)).setCell _ (fun _ => .inl rfl), fun k hk => ?_⟩
  · rw [intVals_append, ← EN.out]; exact HA.out
  · rcases HW.out with hw | hw
    · exact .inl (hw ▸ hk)
    · exact .inr (hw k hk)

theorem fifoI_get_no (h : QAt w B 1 b o cs T v L.length (intVals L)) (h0 : L = []) : Calls Try.prog 41 #[.pointer (some ⟨b, o, none⟩)] w fun e w' => e = .returned (.tuple #[.int .i64 0, .bool false]) ∧ w = w' := by
  have P := Lib.hid (fifoI_first_no h h0)
  clear h
  go_enter Try.func41, Try.ntmps41
  go_wp2_with ((with_reducible refine P.out.mono ?_); rintro e w1 ⟨rfl, rfl⟩)
  go_ret2
  exact ⟨rfl, rfl⟩

set_option maxHeartbeats 1000000 in
set_option maxRecDepth 100000 in
theorem fifoI_get {x : Int} {l : List Int} (h : QAt w B 1 b o cs T v L.length (intVals L)) (h0 : L = x :: l) : Calls Try.prog 41 #[.pointer (some ⟨b, o, none⟩)] w fun e w' => e = .returned (.tuple #[.int .i64 x, .bool true]) ∧ QOf w B 1 b o cs T v l.length (intVals l) w' := by
  have P := Lib.hid (fifoI_first h h0)
  have c := h.cell
  have f := h.free
  have hQ := Lib.hid h
  obtain ⟨g, q, cap, rfl, hBg, hgw, hnc, hc, hth⟩ := h.owns.some_of (by rw [h0]; simp)
  subst h0
  have c1 := hc 0 (.int .i64 x) rfl
  have f1 := (hth 0 (by simp at hnc; omega)).2
  rw [Nat.add_zero] at c1 f1
  have hgb : b ≠ g := fun e => h.apart (by rw [e]; rfl)
  obtain ⟨n, en⟩ : ∃ n, n = l.length := ⟨_, rfl⟩
  have EN := Lib.hid en
  have hlen : (x :: l).length = n + 1 := by rw [List.length_cons, ← en]
  have hO := h.owns
  rw [hlen] at c hO hnc ⊢
  have O := Lib.hid hO
  have d1 : (0 : Int) < ((n + 1 : Nat) : Int) := by omega
  have hz : ∀ u : Value, u = .int .i64 0 → (w.setCell ⟨g, q, none⟩ u).cell? ⟨b, o, none⟩ = some (.slice (some ⟨g, q, none⟩) (n + 1 : Nat) cap) := fun u _ => by
    rw [World.cell?_setCell_other _ _ _ _ (by intro e; injection e with e1 e2; exact hgb e1.symm)]; exact c
  have c4 := hz _ rfl
  clear h hO hz hth hc
  by_cases hcap : cap = 1
  · subst hcap
    obtain rfl : n = 0 := by omega
    obtain rfl : l = [] := List.length_eq_zero_iff.1 en.symm
    clear en
    go_enter Try.func41, Try.ntmps41
    go_wp2_with ((with_reducible refine P.out.mono ?_); rintro e w1 ⟨rfl, rfl⟩)
    go_ret2
    have h5 := OwnsO.void (w := w) (B := B) (us := [.int .i64 0]) (o := q) (sz := 1) hBg hgw
    exact ⟨rfl, _, QAt.put ((Below.heap_setCell _ _ _ _ hgb).trans hQ.out.row) hQ.out.size h5 hQ.out.apart, ((Turned.refl (S := fun k => k = b ∨ some g = some k)).setCell _ (fun _ => .inr rfl)).setCell _ (fun _ => .inl rfl), fun k hk => .inl hk⟩
  · have hc1 : ¬ cap - 1 = 0 := by omega
    have hc2 : 1 ≤ cap := by omega
    clear en
    go_enter Try.func41, Try.ntmps41
    go_wp2_with ((with_reducible refine P.out.mono ?_); rintro e w1 ⟨rfl, rfl⟩)
    go_ret2
    have h5 := O.out.tail [.int .i64 0] rfl
    rw [← EN.out]
    exact ⟨rfl, _, QAt.put ((Below.heap_setCell _ _ _ _ hgb).trans hQ.out.row) hQ.out.size h5 hQ.out.apart, ((Turned.refl (S := fun k => k = b ∨ some g = some k)).setCell _ (fun _ => .inr rfl)).setCell _ (fun _ => .inl rfl), fun k hk => .inl hk⟩
end
end Go.Proofs.Ytapgcbjlgekpeaa
