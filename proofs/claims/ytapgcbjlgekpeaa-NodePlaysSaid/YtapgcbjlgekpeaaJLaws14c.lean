/- Layer 14: the laws, walked: a list with one more, by the reference. -/
import Derived.Test.YtapgcbjlgekpeaaJLaws14
namespace Go.Proofs.Ytapgcbjlgekpeaa
open Go.ChangeShapes Go.WideShapes Go.ChangeAt Go.RowKit

theorem Advs.drop1 {w : World} {b off : Nat} {l : List Adv} (h : Advs w (some ⟨b, off, none⟩) l) : Advs w (some ⟨b, off + 5, none⟩) (l.drop 1) := by
  rcases h with h0 | ⟨b', off', e, hb, hc⟩
  · left
    rw [List.length_drop]
    omega
  · simp only [Option.some.injEq, Addr.mk.injEq, and_true] at e
    obtain ⟨rfl, rfl⟩ := e
    refine .inr ⟨b, off + 5, rfl, hb, fun j hj => ?_⟩
    rw [List.length_drop] at hj
    have := hc (j + 5) (by omega)
    rw [show off + 5 + j = off + (j + 5) by omega, this]
    show some (Value.int .i64 ((l[(j + 5) / 5]?.getD default).get ((j + 5) % 5))) = some (Value.int .i64 (((l.drop 1)[j / 5]?.getD default).get (j % 5)))
    rw [show (j + 5) / 5 = 1 + j / 5 by omega, show (j + 5) % 5 = j % 5 by omega, List.getElem?_drop]

def Adv.put (l : List Adv) (room : Nat) (a : Adv) : List Adv := if room < l.length + 1 then (l ++ [a]).drop 1 else l ++ [a]
theorem Adv.put_next {l : List Adv} {room : Nat} (h1 : 1 ≤ room) (h : l.length ≤ room) (a : Adv) : Adv.put l room a = Ring.next room l a := by
  unfold Adv.put Ring.next
  by_cases h2 : l.length < room
  · rw [if_neg (by omega), if_pos h2]
  · rw [if_pos (by omega), if_neg h2]
    cases l with
    | nil => simp at h h2; omega
    | cons x l => rfl

set_option maxHeartbeats 1000000 in
set_option maxRecDepth 100000 in
theorem ref14_put (p : Option Addr) (n c : Nat) (l : List Adv) (hn : l.length = n) (hb : n ≤ 100000) (hp : p = none → n = 0 ∧ c = 0) (room : Nat) (a : Adv) (w : World) (hs : Advs w p l) :
    Calls Try.prog 86 #[.slice p n c, .int .i64 room, .agg #[.int .i64 a.tick, .int .i64 a.load, .int .i64 a.want, .int .i64 a.repl, .int .i64 a.why]] w fun e w' => ∃ q d, e = .returned (.slice q (Adv.put l room a).length d) ∧ (Adv.put l room a).length ≤ d ∧ AdvsIn w.heap.size w'.heap.size w' q (Adv.put l room a) ∧ (q = none → (Adv.put l room a).length = 0 ∧ d = 0) ∧ Below w.heap.size w w' := by
  have hl := advVals_len l
  rw [hn] at hl
  have HL := Lib.hid hl
  have H1 := Lib.hid (advVals_one l)
  have HC := Lib.hid (hs.below (below2 w (.cells #[.int .i64 a.tick, .int .i64 a.load, .int .i64 a.want, .int .i64 a.repl, .int .i64 a.why] 27) (.cells #[] 27))).news
  have HP := Lib.hid hp
  have HN := Lib.hid hn
  have HPU := Lib.hid (show Adv.put l room a = if room < l.length + 1 then (l ++ [a]).drop 1 else l ++ [a] from rfl)
  rw [hn] at HPU
  obtain ⟨m, em⟩ : ∃ m, m = Adv.put l room a := ⟨_, rfl⟩
  rw [← em] at HPU ⊢
  have O : Hid (Owns ((w.alloc (.cells #[.int .i64 a.tick, .int .i64 a.load, .int .i64 a.want, .int .i64 a.repl, .int .i64 a.why] 27)).alloc (.cells #[] 27)) (w.heap.size + 1) 5 (.slice (some ⟨w.heap.size + 1, 0, none⟩) 0 0) 0 []) :=
    ⟨rfl, .inr ⟨w.heap.size + 1, 0, rfl, Nat.le_refl _, by simp, Nat.le_refl _, fun j u hu => by simp at hu, fun j hj => by simp at hj⟩⟩
  have K0 : Hid (((w.alloc (.cells #[.int .i64 a.tick, .int .i64 a.load, .int .i64 a.want, .int .i64 a.repl, .int .i64 a.why] 27)).alloc (.cells #[] 27)).heap[w.heap.size]? = some (.cells #[.int .i64 a.tick, .int .i64 a.load, .int .i64 a.want, .int .i64 a.repl, .int .i64 a.why] 27 (0, 0))) := heap_2_0 w _ _
  clear hl hs hn hp em
  by_cases hc : room < n + 1
  · have d1 : decide ((room : Int) < (n : Int) + 1) = true := decide_eq_true (by omega)
    have d2 : decide (room < n + 1) = true := decide_eq_true hc
    have em : m = (l ++ [a]).drop 1 := HPU.out.trans (if_pos hc)
    have EM := Lib.hid em
    clear HPU em
    go_enter Try.func86, Try.ntmps86
    go_wp2_with (first | ((with_reducible refine wpList_load_rowAs rfl 27 _ rfl (w.heap.size) ?_ 27 #[.int .i64 a.tick, .int .i64 a.load, .int .i64 a.want, .int .i64 a.repl, .int .i64 a.why] (0, 0) _ 5 ?_ Try.underlying27 rfl (by kernel_rfl) ?_ ?_); exact rfl; exact K1.out; exact rfl) | (at_builtin; refine wpList_append_any2 rfl _ _ 38 rfl (w.heap.size + 1) 27 (.agg #[.int .i64 0, .int .i64 0, .int .i64 0, .int .i64 0, .int .i64 0]) 5 40 Try.underlying38 advInfo rfl (by decide) _ _ _ rfl O.out _ _ _ (advVals l) rfl (by rw [HL.out]) HP.out HC.out H1.out (by unfold maxLen; omega) (by omega) (by simp) ?_; intro u1 x1 ha1 hg1 hw1; have hst1 : Hid (Below w.heap.size w x1) := (below2 w _ _).grown hg1 (by simp; omega) (fun k hk => by have h : some (w.heap.size + 1) = some k := hk; injection h with h; omega); have K1 : Hid (x1.heap[w.heap.size]? = some (.cells #[.int .i64 a.tick, .int .i64 a.load, .int .i64 a.want, .int .i64 a.repl, .int .i64 a.why] 27 (0, 0))) := (hg1.block _ (by simp; omega) (fun e => by have h : some w.heap.size = some (w.heap.size + 1) := e; injection h with h; omega)).trans K0.out; rw [Nat.zero_add, List.nil_append] at ha1; have HA := Lib.hid ha1; have HZ : Hid (w.heap.size + 1 ≤ x1.heap.size) := lt_of_heap K1.out; obtain ⟨p1, c1, rfl, hc1, _⟩ := ha1.sl; clear ha1 hg1 hw1 K0 O) | (at_builtin; refine wpList_append_new2 rfl _ _ 38 rfl _ _ 27 rfl (w.heap.size + 1) 27 (.agg #[.int .i64 0, .int .i64 0, .int .i64 0, .int .i64 0, .int .i64 0]) 5 40 Try.underlying38 advInfo rfl (by decide) _ _ _ rfl HA.out rfl rfl (advVals_one1 a) (by unfold maxLen; omega) (by omega) HZ.out ?_; intro u2 x2 ha2 hg2 hb2 hw2; have HA2 := Lib.hid ha2; have HB2 := Lib.hid hb2; obtain ⟨p2, c2, rfl, hc2, _⟩ := ha2.sl; clear ha2 hg2 hb2 hw2))
    · go_ret
      have hO := HA2.out
      have hadv : Advs x2 p2 (l ++ [a]) := by
        have h : Owns x2 (w.heap.size + 1) 5 (Value.slice p2 (n + 1) c2) (n + 1) (advVals l ++ advVals [a]) := hO
        rw [← advVals_append, ← HN.out, ← List.length_singleton (a := a), ← List.length_append] at h
        obtain ⟨p', cap', e, _, h3⟩ := advs_of_owns h
        simp only [Value.slice.injEq] at e
        rw [e.1]; exact h3
      rcases hO.2 with ⟨h1, h2⟩ | ⟨g, cap, h1, h2, h3, h4, _⟩
      · omega
      simp only [Value.slice.injEq] at h1
      obtain ⟨rfl, _, rfl⟩ := h1
      have hlen : m.length = n := by rw [EM.out, List.length_drop, List.length_append, HN.out]; simp
      rw [hlen]
      refine ⟨_, _, rfl, by show n ≤ 0; omega, ⟨.inl (by rw [hlen]; omega), fun ad had => by cases had; exact ⟨by show w.heap.size ≤ g; omega, h3⟩⟩, fun h => by (cases h), hst1.out.trans (HB2.out.mono (by omega))⟩
    · go_ret
      have hO := HA2.out
      have hadv : Advs x2 p2 (l ++ [a]) := by
        have h : Owns x2 (w.heap.size + 1) 5 (Value.slice p2 (n + 1) c2) (n + 1) (advVals l ++ advVals [a]) := hO
        rw [← advVals_append, ← HN.out, ← List.length_singleton (a := a), ← List.length_append] at h
        obtain ⟨p', cap', e, _, h3⟩ := advs_of_owns h
        simp only [Value.slice.injEq] at e
        rw [e.1]; exact h3
      rcases hO.2 with ⟨h1, h2⟩ | ⟨g, cap, h1, h2, h3, h4, _⟩
      · omega
      simp only [Value.slice.injEq] at h1
      obtain ⟨rfl, _, rfl⟩ := h1
      have hlen : m.length = n := by rw [EM.out, List.length_drop, List.length_append, HN.out]; simp
      rw [hlen]
      refine ⟨_, _, rfl, by show n ≤ c2 - 1; omega, ⟨by rw [EM.out]; exact hadv.drop1, fun ad had => by cases had; exact ⟨by show w.heap.size ≤ g; omega, h3⟩⟩, fun h => by (cases h), hst1.out.trans (HB2.out.mono (by omega))⟩
  · have d1 : decide ((room : Int) < (n : Int) + 1) = false := decide_eq_false (by omega)
    have d2 : decide (room < n + 1) = false := decide_eq_false hc
    have em : m = l ++ [a] := HPU.out.trans (if_neg hc)
    have EM := Lib.hid em
    clear HPU em
    go_enter Try.func86, Try.ntmps86
    go_wp2_with (first | ((with_reducible refine wpList_load_rowAs rfl 27 _ rfl (w.heap.size) ?_ 27 #[.int .i64 a.tick, .int .i64 a.load, .int .i64 a.want, .int .i64 a.repl, .int .i64 a.why] (0, 0) _ 5 ?_ Try.underlying27 rfl (by kernel_rfl) ?_ ?_); exact rfl; exact K1.out; exact rfl) | (at_builtin; refine wpList_append_any2 rfl _ _ 38 rfl (w.heap.size + 1) 27 (.agg #[.int .i64 0, .int .i64 0, .int .i64 0, .int .i64 0, .int .i64 0]) 5 40 Try.underlying38 advInfo rfl (by decide) _ _ _ rfl O.out _ _ _ (advVals l) rfl (by rw [HL.out]) HP.out HC.out H1.out (by unfold maxLen; omega) (by omega) (by simp) ?_; intro u1 x1 ha1 hg1 hw1; have hst1 : Hid (Below w.heap.size w x1) := (below2 w _ _).grown hg1 (by simp; omega) (fun k hk => by have h : some (w.heap.size + 1) = some k := hk; injection h with h; omega); have K1 : Hid (x1.heap[w.heap.size]? = some (.cells #[.int .i64 a.tick, .int .i64 a.load, .int .i64 a.want, .int .i64 a.repl, .int .i64 a.why] 27 (0, 0))) := (hg1.block _ (by simp; omega) (fun e => by have h : some w.heap.size = some (w.heap.size + 1) := e; injection h with h; omega)).trans K0.out; rw [Nat.zero_add, List.nil_append] at ha1; have HA := Lib.hid ha1; have HZ : Hid (w.heap.size + 1 ≤ x1.heap.size) := lt_of_heap K1.out; obtain ⟨p1, c1, rfl, hc1, _⟩ := ha1.sl; clear ha1 hg1 hw1 K0 O) | (at_builtin; refine wpList_append_new2 rfl _ _ 38 rfl _ _ 27 rfl (w.heap.size + 1) 27 (.agg #[.int .i64 0, .int .i64 0, .int .i64 0, .int .i64 0, .int .i64 0]) 5 40 Try.underlying38 advInfo rfl (by decide) _ _ _ rfl HA.out rfl rfl (advVals_one1 a) (by unfold maxLen; omega) (by omega) HZ.out ?_; intro u2 x2 ha2 hg2 hb2 hw2; have HA2 := Lib.hid ha2; have HB2 := Lib.hid hb2; obtain ⟨p2, c2, rfl, hc2, _⟩ := ha2.sl; clear ha2 hg2 hb2 hw2))
    go_ret
    have hO := HA2.out
    have hadv : Advs x2 p2 (l ++ [a]) := by
      have h : Owns x2 (w.heap.size + 1) 5 (Value.slice p2 (n + 1) c2) (n + 1) (advVals l ++ advVals [a]) := hO
      rw [← advVals_append, ← HN.out, ← List.length_singleton (a := a), ← List.length_append] at h
      obtain ⟨p', cap', e, _, h3⟩ := advs_of_owns h
      simp only [Value.slice.injEq] at e
      rw [e.1]; exact h3
    rcases hO.2 with ⟨h1, h2⟩ | ⟨g, cap, h1, h2, h3, h4, _⟩
    · omega
    simp only [Value.slice.injEq] at h1
    obtain ⟨rfl, _, rfl⟩ := h1
    have hlen : m.length = n + 1 := by rw [EM.out, List.length_append, HN.out]; simp
    rw [hlen]
    exact ⟨some ⟨g, 0, none⟩, c2, rfl, by omega, ⟨by rw [EM.out]; exact hadv, fun ad had => by cases had; exact ⟨by show w.heap.size ≤ g; omega, h3⟩⟩, fun h => by (cases h), hst1.out.trans (HB2.out.mono (by omega))⟩
end Go.Proofs.Ytapgcbjlgekpeaa
