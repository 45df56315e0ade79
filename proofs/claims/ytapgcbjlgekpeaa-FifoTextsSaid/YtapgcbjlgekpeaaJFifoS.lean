/- Layer 23: a queue of strings. -/
import Derived.Test.YtapgcbjlgekpeaaJFifoD
import Derived.Test.YtapgcbjlgekpeaaJFifoI
import Derived.Recover
import Derived.Defers
import Derived.Deep.CutRange
namespace Go.Proofs.Ytapgcbjlgekpeaa
open Go.ChangeShapes Go.WideShapes Go.ChangeAt Go.RowKit

def strVals (l : List ByteArray) : List Value := l.map Value.string
theorem strVals_append (l m : List ByteArray) : strVals (l ++ m) = strVals l ++ strVals m := by simp [strVals]
theorem fifoS_info : (Try.prog.info? 9).map (fun i => (i.zero, i.size, i.bytes)) = some (some (.string ByteArray.empty), 1, 16) := by kernel_rfl

section
variable {w : World} {B b o : Nat} {cs : Array Value} {T : TypeId} {v : Value} {L : List ByteArray}

theorem fifoS_all (h : QAt w B 1 b o cs T v L.length (strVals L)) : Calls Try.prog 110 #[.pointer (some ⟨b, o, none⟩)] w fun e w' => e = .returned v ∧ w = w' := by
  have c := h.cell
  obtain ⟨p, cap, rfl, _⟩ := h.owns.sl
  clear h
  go_enter Try.func110, Try.ntmps110
  go_wp2
  go_ret
  exact ⟨rfl, rfl⟩
theorem fifoS_len (h : QAt w B 1 b o cs T v L.length (strVals L)) : Calls Try.prog 53 #[.pointer (some ⟨b, o, none⟩)] w fun e w' => e = .returned (.int .i64 L.length) ∧ w = w' := by
  have P := fifoS_all h
  obtain ⟨p, cap, rfl, _⟩ := h.owns.sl
  have P1 := Lib.hid P
  clear h P
  go_enter Try.func53, Try.ntmps53
  go_wp2_with ((with_reducible refine P1.out.mono ?_); rintro e w1 ⟨rfl, rfl⟩)
  go_ret
  exact ⟨rfl, rfl⟩
theorem fifoS_first_no (h : QAt w B 1 b o cs T v L.length (strVals L)) (h0 : L = []) : Calls Try.prog 56 #[.pointer (some ⟨b, o, none⟩)] w fun e w' => e = .returned (.tuple #[.string ByteArray.empty, .bool false]) ∧ w = w' := by
  have P := fifoS_len h
  subst h0
  have P1 := Lib.hid P
  clear h P
  go_enter Try.func56, Try.ntmps56
  go_wp2_with ((with_reducible refine P1.out.mono ?_); rintro e w1 ⟨rfl, rfl⟩)
  go_ret2
  exact ⟨rfl, rfl⟩
theorem fifoS_first {x : ByteArray} {l : List ByteArray} (h : QAt w B 1 b o cs T v L.length (strVals L)) (h0 : L = x :: l) : Calls Try.prog 56 #[.pointer (some ⟨b, o, none⟩)] w fun e w' => e = .returned (.tuple #[.string x, .bool true]) ∧ w = w' := by
  have P := fifoS_len h
  have c := h.cell
  obtain ⟨g, q, cap, rfl, _, _, _, hc, _⟩ := h.owns.some_of (by rw [h0]; simp)
  subst h0
  have c1 := hc 0 (.string x) rfl
  rw [Nat.add_zero] at c1
  obtain ⟨n, en⟩ : ∃ n, (x :: l).length = n + 1 := ⟨_, rfl⟩
  rw [en] at P c
  have P1 := Lib.hid P
  have d0 : (((n + 1 : Nat) : Int) == 0) = false := beq_eq_false_iff_ne.2 (by omega)
  have d1 : (0 : Int) < ((n + 1 : Nat) : Int) := by omega
  clear h P hc
  go_enter Try.func56, Try.ntmps56
  go_wp2_with ((with_reducible refine P1.out.mono ?_); rintro e w1 ⟨rfl, rfl⟩)
  go_ret2
  exact ⟨rfl, rfl⟩

set_option maxHeartbeats 1000000 in
set_option maxRecDepth 100000 in
theorem fifoS_put (h : QAt w B 1 b o cs T v L.length (strVals L)) (hn : L.length ≤ 100000) (hB : B ≤ w.heap.size) (x : ByteArray) : Calls Try.prog 51 #[.pointer (some ⟨b, o, none⟩), .string x] w fun e w' => e = .returned (.bool true) ∧ QOf w B 1 b o cs T v (L ++ [x]).length (strVals (L ++ [x])) w' := by
  have c := h.cell
  have hQ := Lib.hid h
  obtain ⟨p, cap, rfl, _⟩ := h.owns.sl
  obtain ⟨n, en⟩ : ∃ n, n = L.length := ⟨_, rfl⟩
  have EN := Lib.hid en
  have O := Lib.hid h.owns
  rw [← en] at c hn O ⊢
  have hmx : n + 1 ≤ maxLen := by unfold maxLen; omega
  have hby : (n + 1) * 16 ≤ 140737488355328 := by omega
  clear h en
  go_enter Try.func51, Try.ntmps51
  go_wp2_with (at_builtin; refine wpList_append_O rfl _ _ 92 rfl _ _ 9 rfl 1 B 9 (.string ByteArray.empty) 1 16 Try.underlying92 fifoS_info rfl (by decide) (.slice p n cap) n (strVals L) rfl O.out rfl rfl (by simp [Value.oneCell']) hmx hby hB ?_; intro u1 x1 ha1 hg1 hc1 hw1; obtain ⟨p1, d1, rfl, _⟩ := ha1.sl; have k1 := (hg1.block b hQ.out.lt (fun e => hQ.out.apart (by rw [← EN.out]; exact e.symm))).trans hQ.out.row; have c3 : x1.cell? ⟨b, o, none⟩ = some (.slice p n cap) := (by rw [cell_of_row _ _ _ _ _ _ k1, hQ.out.item, ← EN.out]); have g3 := frozen_of_row x1 b o _ _ k1; have HA := Lib.hid ha1; have HG := Lib.hid hg1; have HW := Lib.hid hw1; have HK := Lib.hid k1; clear ha1 hg1 hc1 hw1 k1)
  go_ret
  have hap : (Value.slice p1 (n + 1) d1).ownBlock ≠ some b := by
    rcases HW.out with hw | hw
    · rw [hw, EN.out]; exact hQ.out.apart
    · intro e; have := hw b e; have := hQ.out.lt; omega
  refine ⟨rfl, _, QAt.put HK.out hQ.out.size ?_ hap, (Turned.refl.grown HG.out (fun k hk _ => .inr hk)).setCell _ (fun _ => .inl rfl), fun k hk => ?_⟩
  · rw [strVals_append, ← EN.out]; exact HA.out
  · rcases HW.out with hw | hw
    · exact .inl (hw ▸ hk)
    · exact .inr (hw k hk)

theorem fifoS_get_no (h : QAt w B 1 b o cs T v L.length (strVals L)) (h0 : L = []) : Calls Try.prog 55 #[.pointer (some ⟨b, o, none⟩)] w fun e w' => e = .returned (.tuple #[.string ByteArray.empty, .bool false]) ∧ w = w' := by
  have P := Lib.hid (fifoS_first_no h h0)
  clear h
  go_enter Try.func55, Try.ntmps55
  go_wp2_with ((with_reducible refine P.out.mono ?_); rintro e w1 ⟨rfl, rfl⟩)
  go_ret2
  exact ⟨rfl, rfl⟩

set_option maxHeartbeats 1000000 in
set_option maxRecDepth 100000 in
theorem fifoS_get {x : ByteArray} {l : List ByteArray} (h : QAt w B 1 b o cs T v L.length (strVals L)) (h0 : L = x :: l) : Calls Try.prog 55 #[.pointer (some ⟨b, o, none⟩)] w fun e w' => e = .returned (.tuple #[.string x, .bool true]) ∧ QOf w B 1 b o cs T v l.length (strVals l) w' := by
  have P := Lib.hid (fifoS_first h h0)
  have c := h.cell
  have f := h.free
  have hQ := Lib.hid h
  obtain ⟨g, q, cap, rfl, hBg, hgw, hnc, hc, hth⟩ := h.owns.some_of (by rw [h0]; simp)
  subst h0
  have c1 := hc 0 (.string x) rfl
  have f1 := (hth 0 (by simp at hnc; omega)).2
  rw [Nat.add_zero] at c1 f1
  have hgb : b ≠ g := fun e => h.apart (by rw [e]; rfl)
  obtain ⟨n, en⟩ : ∃ n, n = l.length := ⟨_, rfl⟩
  have EN := Lib.hid en
  have hlen : (x :: l).length = n + 1 := by rw [List.length_cons, ← en]
  have hO := h.owns
  rw [hlen] at c hO hnc ⊢
  have O := Lib.hid hO
  have d1 : (0 : Int) < ((n + 1 : Nat) : Int) := by omega
  have hz : ∀ u : Value, u = .string ByteArray.empty → (w.setCell ⟨g, q, none⟩ u).cell? ⟨b, o, none⟩ = some (.slice (some ⟨g, q, none⟩) (n + 1 : Nat) cap) := fun u _ => by
    rw [World.cell?_setCell_other _ _ _ _ (by intro e; injection e with e1 e2; exact hgb e1.symm)]; exact c
  have c4 := hz _ rfl
  clear h hO hz hth hc
  by_cases hcap : cap = 1
  · subst hcap
    obtain rfl : n = 0 := by omega
    obtain rfl : l = [] := List.length_eq_zero_iff.1 en.symm
    clear en
    go_enter Try.func55, Try.ntmps55
    go_wp2_with ((with_reducible refine P.out.mono ?_); rintro e w1 ⟨rfl, rfl⟩)
    go_ret2
    have h5 := OwnsO.void (w := w) (B := B) (us := [.string ByteArray.empty]) (o := q) (sz := 1) hBg hgw
    exact ⟨rfl, _, QAt.put ((Below.heap_setCell _ _ _ _ hgb).trans hQ.out.row) hQ.out.size h5 hQ.out.apart, ((Turned.refl (S := fun k => k = b ∨ some g = some k)).setCell _ (fun _ => .inr rfl)).setCell _ (fun _ => .inl rfl), fun k hk => .inl hk⟩
  · have hc1 : ¬ cap - 1 = 0 := by omega
    have hc2 : 1 ≤ cap := by omega
    clear en
    go_enter Try.func55, Try.ntmps55
    go_wp2_with ((with_reducible refine P.out.mono ?_); rintro e w1 ⟨rfl, rfl⟩)
    go_ret2
    have h5 := O.out.tail [.string ByteArray.empty] rfl
    rw [← EN.out]
    exact ⟨rfl, _, QAt.put ((Below.heap_setCell _ _ _ _ hgb).trans hQ.out.row) hQ.out.size h5 hQ.out.apart, ((Turned.refl (S := fun k => k = b ∨ some g = some k)).setCell _ (fun _ => .inr rfl)).setCell _ (fun _ => .inl rfl), fun k hk => .inl hk⟩
end
end Go.Proofs.Ytapgcbjlgekpeaa
