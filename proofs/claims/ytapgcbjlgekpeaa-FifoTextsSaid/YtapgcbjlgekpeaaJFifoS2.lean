/- Layer 23: where a thing stands in a queue of strings; what is dropped. -/
import Derived.Test.YtapgcbjlgekpeaaJFifoSDel
namespace Go.Proofs.Ytapgcbjlgekpeaa
open Go.ChangeShapes Go.WideShapes Go.ChangeAt Go.RowKit

theorem strVals_one2 (l : List ByteArray) : ∀ u ∈ strVals l, u.oneCell' = true := by intro u hu; simp [strVals] at hu; obtain ⟨a, _, rfl⟩ := hu; rfl

theorem str_beq23 (x y : ByteArray) : (x.toList == y.toList) = decide (x = y) := by
  by_cases h : x = y
  · subst h; simp
  · rw [decide_eq_false h]
    refine beq_eq_false_iff_ne.2 fun e => h ?_
    have e2 : (x.toList == y.toList) = true := beq_iff_eq.2 e
    rw [← beq_toListBytes] at e2
    obtain ⟨a⟩ := x
    obtain ⟨b⟩ := y
    rw [show a = b by simpa using (show (a == b) = true from e2)]
theorem fifoS_idle (w : World) : CallsD Try.prog 182 #[] .returning w fun e u' w' => e = .returned (.tuple #[]) ∧ u' = .returning ∧ w' = w := by
  refine callsD_of_wpS Try.func182 rfl fun c₀ cs hu => ?_
  apply wpS_region
  simp [wpOpsS, go_sem, recoverD, hu, Try.ntmps182, bodyPostS, results, Try.results182]
  cases c₀
  simp_all

theorem fifoS_same (x y : ByteArray) (w : World) : Calls Try.prog 159 #[.string x, .string y] w fun e w' => e = .returned (.bool (decide (x = y))) ∧ w = w' := by
  have hmf : ∀ (fn : Fn) (first cap : Array Value) (w : World), (Instr.makeFunc fn first cap).run Try.prog w = .ok (.func fn first cap) w := fun _ _ _ _ => rfl
  go_enter_defers Try.func159, Try.ntmps159
  go_wp2
  refine leaves_cons (f := 182) (args := #[]) (by simp) (by simp [go_sem]) ?_
  refine (fifoS_idle _).mono ?_
  rintro e u' w'' ⟨rfl, rfl, rfl⟩
  simp [Leaves, settle, results, Try.results159, go_sem]
  try rfl
  try exact str_beq23 x y

theorem fifoS_place1 (x y : ByteArray) (bx : Nat) (w : World) (c : w.cell? ⟨bx, 0, none⟩ = some (.string x)) : Calls Try.prog 158 #[.string y, .pointer (some ⟨bx, 0, none⟩)] w fun e w' => e = .returned (.bool (decide (x = y))) ∧ w = w' := by
  have P := Lib.hid (fifoS_same x y)
  go_enter Try.func158, Try.ntmps158
  go_wp2_with ((with_reducible refine (P.out _).mono ?_); rintro e w1 ⟨rfl, rfl⟩)
  go_ret
  exact ⟨rfl, rfl⟩

set_option maxHeartbeats 1000000 in
set_option maxRecDepth 100000 in
theorem fifoS_index (p : Option Addr) (cap : Nat) (l : List ByteArray) (hb : l.length ≤ 100000) (x : ByteArray) (bx : Nat) (w : World) (hs : Sl w p l.length 1 (fun j => (strVals l)[j]?.getD undef)) (c : w.cell? ⟨bx, 0, none⟩ = some (.string x)) (hbx : bx < w.heap.size) :
    Calls Try.prog 157 #[.slice p l.length cap, .func (.func 158) #[] #[.pointer (some ⟨bx, 0, none⟩)]] w fun e w' => e = .returned (.int .i64 (Fi.place l x)) ∧ Below w.heap.size w w' := by
  have HS := Lib.hid hs
  have HC := Lib.hid c
  have HPA := Lib.hid (fun (k : Nat) => Fi.place_at (l := l) (x := x) (k := k))
  have HPN := Lib.hid (Fi.place_none (l := l) (x := x))
  obtain ⟨r, er⟩ : ∃ r, r = Fi.place l x := ⟨_, rfl⟩
  rw [← er] at HPN ⊢
  simp only [← er] at HPA
  obtain ⟨n, en⟩ : ∃ n, n = l.length := ⟨_, rfl⟩
  have EN := Lib.hid en
  rw [← en] at hb HPN ⊢
  clear hs c er en
  go_enter Try.func157, Try.ntmps157
  go_wp2
  go_loopw [8] (fun i wr => ∃ k : Nat, k ≤ n ∧ i = .int .i64 (k : Nat) ∧ (∀ j, j < k → l[j]? ≠ some x) ∧ Below w.heap.size w wr) (fun i _ => n - (intOf i).toNat)
  case atStart => exact ⟨0, by omega, rfl, fun j hj => by omega, Below.refl _ _⟩
  case round =>
    obtain ⟨k, hk, rfl, hno, hB⟩ := hrel
    by_cases hlt : k < n
    · have hkl : k < l.length := by have := EN.out; omega
      obtain ⟨b, off, rfl, hbw, hc⟩ := HS.out.pos (by omega)
      have hcx := hc k (by omega)
      rw [← hB.cell (p := ⟨b, off + k, none⟩) hbw] at hcx
      obtain ⟨y, ey⟩ : ∃ y, l[k]? = some y := ⟨_, List.getElem?_eq_getElem hkl⟩
      rw [show (strVals l)[k]?.getD undef = .string y by simp [strVals, ey]] at hcx
      have cb : wr.cell? ⟨bx, 0, none⟩ = some (.string x) := (hB.cell (p := ⟨bx, 0, none⟩) hbx).trans HC.out
      have P := fifoS_place1 x y bx wr cb
      have BB := Lib.hid hB
      have HNO := Lib.hid hno
      have i0 : (0 : Int) ≤ (k : Int) := by omega
      have i1 : (k : Int) < n := by omega
      by_cases hxy : x = y
      · rw [decide_eq_true hxy] at P
        have HR := Lib.hid (HPA.out k (by rw [hxy]; exact ey) HNO.out)
        have P1 := Lib.hid P
        clear P hno hB hc cb ey hkl hxy
        go_wp2_with ((with_reducible refine P1.out.mono ?_); rintro e w1 ⟨rfl, rfl⟩)
        go_ret
        exact ⟨by rw [HR.out]; rfl, BB.out⟩
      · rw [decide_eq_false hxy] at P
        have P1 := Lib.hid P
        have HN2 : Hid (∀ j, j < k + 1 → l[j]? ≠ some x) := fun j hj => by
          by_cases e : j = k
          · rw [e, ey]; intro h; exact hxy (Option.some.inj h).symm
          · exact HNO.out j (by omega)
        clear P hno hB hc cb ey hkl hxy
        go_wp2_with ((with_reducible refine P1.out.mono ?_); rintro e w1 ⟨rfl, rfl⟩)
        exact ⟨⟨k + 1, by omega, by go_num, HN2.out, BB.out⟩, by simp [intOf]; omega⟩
    · obtain rfl : k = n := by omega
      have HR := Lib.hid (HPN.out hno)
      have BB := Lib.hid hB
      clear hno hB
      go_wp2
      go_ret
      exact ⟨by rw [HR.out]; rfl, BB.out⟩

section
variable {w : World} {B b o : Nat} {cs : Array Value} {T : TypeId} {v : Value} {L : List ByteArray}
set_option maxRecDepth 100000 in
theorem fifoS_place (h : QAt w B 1 b o cs T v L.length (strVals L)) (hn : L.length ≤ 100000) (x : ByteArray) : Calls Try.prog 108 #[.pointer (some ⟨b, o, none⟩), .string x] w fun e w' => e = .returned (.int .i64 (Fi.place L x)) ∧ Below w.heap.size w w' := by
  have h1 := h.below (below1 w (.cells #[.string x] 9))
  have P1 := Lib.hid (fifoS_all h1)
  obtain ⟨p, cap, rfl, _, _, hs, _⟩ := h1.owns.sl
  have c : (w.alloc (.cells #[.string x] 9)).cell? ⟨w.heap.size, 0, none⟩ = some (.string x) := by rw [cell_of_row _ _ _ _ _ _ (heap_alloc_at _ _ _ rfl)]; rfl
  have P2 := Lib.hid (fifoS_index p cap L hn x w.heap.size _ hs c (by simp))
  obtain ⟨n, en⟩ : ∃ n, n = L.length := ⟨_, rfl⟩
  obtain ⟨r, er⟩ : ∃ n, n = Fi.place L x := ⟨_, rfl⟩
  rw [← en] at P1 P2 hn
  rw [← er] at P2 ⊢
  clear h h1 hs en er c
  go_enter Try.func108, Try.ntmps108
  go_wp2_with (first | ((with_reducible refine P1.out.mono ?_); rintro e w1 ⟨rfl, rfl⟩) | ((with_reducible refine P2.out.mono ?_); rintro e w1 ⟨rfl, hb⟩; have HB := Lib.hid hb; clear hb))
  go_ret
  exact ⟨rfl, (below1 w _).trans (HB.out.mono (by simp))⟩
theorem fifoS_has (h : QAt w B 1 b o cs T v L.length (strVals L)) (hn : L.length ≤ 100000) (x : ByteArray) : Calls Try.prog 57 #[.pointer (some ⟨b, o, none⟩), .string x] w fun e w' => e = .returned (.bool (decide (Fi.idx L x < L.length))) ∧ Below w.heap.size w w' := by
  have P := fifoS_place h hn x
  rcases Fi.place_cases L x with ⟨h1, h2, _, h3⟩ | ⟨h1, h2, _, h3⟩
  · rw [h2] at P
    rw [decide_eq_true h1]
    obtain ⟨r, er⟩ : ∃ n, n = Fi.idx L x := ⟨_, rfl⟩
    rw [← er] at P
    have P1 := Lib.hid P
    clear h P h1 h2 h3 er
    have d : decide ((0 : Int) ≤ (r : Int)) = true := decide_eq_true (by omega)
    go_enter Try.func57, Try.ntmps57
    go_wp2_with fail
    (with_reducible refine P1.out.mono ?_)
    rintro e w1 ⟨rfl, hb⟩
    have HB := Lib.hid hb
    clear hb
    go_wp2
    go_ret
    exact ⟨rfl, HB.out⟩
  · rw [h2] at P
    rw [decide_eq_false (show ¬ Fi.idx L x < L.length by omega)]
    have P1 := Lib.hid P
    clear h P h1 h2 h3
    go_enter Try.func57, Try.ntmps57
    go_wp2_with fail
    (with_reducible refine P1.out.mono ?_)
    rintro e w1 ⟨rfl, hb⟩
    have HB := Lib.hid hb
    clear hb
    go_wp2
    go_ret
    exact ⟨rfl, HB.out⟩

set_option maxHeartbeats 1000000 in
set_option maxRecDepth 100000 in
theorem fifoS_drop (h : QAt w B 1 b o cs T v L.length (strVals L)) (hn : L.length ≤ 100000) (_ : B ≤ w.heap.size) (x : ByteArray) : Calls Try.prog 52 #[.pointer (some ⟨b, o, none⟩), .string x] w fun e w' => e = .returned (.bool (decide (Fi.idx L x < L.length))) ∧ QOf w B 1 b o cs T v (Fi.drop L x).length (strVals (Fi.drop L x)) w' := by
  have P := fifoS_place h hn x
  rcases Fi.place_cases L x with ⟨h1, h2, h4, h3⟩ | ⟨h1, h2, h4, h3⟩
  · rw [h2] at P
    rw [decide_eq_true h1, h4]
    obtain ⟨r, er⟩ : ∃ n, n = Fi.idx L x := ⟨_, rfl⟩
    rw [← er] at P h1 ⊢
    have P1 := Lib.hid P
    have P2 := Lib.hid (fun (W : World) (hW : OwnsO W B 1 v L.length (strVals L)) => fifoS_delete hW hn r h1 (strVals_one2 L))
    have hQ := Lib.hid h
    have hlen : (L.take r ++ L.drop (r + 1)).length = L.length - 1 := by rw [List.length_append, List.length_take, List.length_drop]; omega
    have hvals : strVals (L.take r ++ L.drop (r + 1)) = (strVals L).take r ++ (strVals L).drop (r + 1) := by simp [strVals]
    rw [hlen, hvals]
    obtain ⟨p, cap, rfl, _⟩ := h.owns.sl
    obtain ⟨n, en⟩ : ∃ n, n = L.length := ⟨_, rfl⟩
    have EN := Lib.hid en
    rw [← en] at P2 hn h1 ⊢
    have d : ¬ ((r : Int) < 0) := by omega
    clear h P h2 h3 h4 er hlen hvals en
    go_enter Try.func52, Try.ntmps52
    go_wp2_with fail
    (with_reducible refine P1.out.mono ?_)
    rintro e w1 ⟨rfl, hb⟩
    have Q1 := Lib.hid (hQ.out.below hb)
    have T1 := Lib.hid (Turned.of_below (S := fun k => k = b ∨ (Value.slice p n cap).ownBlock = some k) hb)
    have c := Q1.out.cell
    rw [← EN.out] at c
    have P3 := P2.out w1 (by have := Q1.out.owns; rw [← EN.out] at this; exact this)
    have P4 := Lib.hid P3
    clear hb P1 P3 P2
    go_wp2_with fail
    (with_reducible refine P4.out.mono ?_)
    rintro e w2 ⟨v2, rfl, ho2, ht2, hv2⟩
    obtain ⟨p2, d2, rfl, _⟩ := ho2.sl
    have hvb : ¬ (Value.slice p n cap).ownBlock = some b := by have := Q1.out.apart; rw [← EN.out] at this; exact this
    have k2 := (ht2.block b Q1.out.lt hvb).trans Q1.out.row
    have c2 : w2.cell? ⟨b, o, none⟩ = some (.slice p n cap) := by rw [cell_of_row _ _ _ _ _ _ k2, Q1.out.item, ← EN.out]
    have f2 : w2.frozen? ⟨b, o, none⟩ = false := frozen_of_row _ _ _ _ _ k2
    have K2 := Lib.hid k2
    have O2 := Lib.hid ho2
    have T2 := Lib.hid (T1.out.trans ht2 (fun k _ e => .inr e))
    have V2 := Lib.hid hv2
    have VB := Lib.hid hvb
    clear k2 ho2 ht2 hv2 hvb P4 c T1
    go_wp2
    go_ret
    have hap : (Value.slice p2 (n - 1) d2).ownBlock ≠ some b := by rw [V2.out]; exact VB.out
    exact ⟨rfl, _, QAt.put K2.out Q1.out.size O2.out hap, T2.out.setCell _ (fun _ => .inl rfl), fun k hk => .inl (V2.out ▸ hk)⟩
  · rw [h2] at P
    rw [decide_eq_false (show ¬ Fi.idx L x < L.length by omega), h4]
    have P1 := Lib.hid P
    have hQ := Lib.hid h
    clear h P h1 h2 h3 h4
    go_enter Try.func52, Try.ntmps52
    go_wp2_with fail
    (with_reducible refine P1.out.mono ?_)
    rintro e w1 ⟨rfl, hb⟩
    have Q1 := Lib.hid (hQ.out.below hb)
    have T1 := Lib.hid (Turned.of_below (S := fun k => k = b ∨ v.ownBlock = some k) hb)
    clear hb
    go_wp2
    go_ret
    have hcs : cs.setIfInBounds o v = cs := by
      apply Array.ext_getElem?
      intro k
      by_cases e : o = k
      · subst e
        rw [Array.getElem?_setIfInBounds_self_of_lt Q1.out.size, Q1.out.item]
      · rw [Array.getElem?_setIfInBounds_ne e]
    exact ⟨rfl, v, by rw [hcs]; exact Q1.out, T1.out, fun k hk => .inl hk⟩
end
end Go.Proofs.Ytapgcbjlgekpeaa
