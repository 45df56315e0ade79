/- Layer 48: decisions made sample by sample break no rule (as data). -/
import Derived.Test.YtcanbagnehdbiaaJAud
import Derived.Test.YtcanbagnehdbiaaJLaws16b
import Derived.Test.YtcanbagnehdbiaaJLaws16d
namespace Go.Proofs.Ytcanbagnehdbiaa
open Go.ChangeShapes Go.WideShapes Go.ChangeAt Go.RowKit

theorem Aud.dec_fine {p : Pol} {l : List Samp} {past : List Adv} (h : Dec.err p l = 0) : Aud.rule p past (Dec.of p l past) = 0 := by
  have h1 := Dec.of_in (past := past) h
  have hok := (Dec.err_zero h).1
  have e : Dec.of p l past = Dec.adv p l past := by unfold Dec.of; rw [if_pos h]
  rw [e] at h1 ⊢
  have g1 : (Dec.adv p l past).why = Dec.why p (Dec.held p l past).2 (p.open' (Dec.load p l) (Dec.now p past)) (Dec.now p past) (p.bound (Dec.held p l past).1) := rfl
  have g2 : (Dec.adv p l past).repl = p.bound (Dec.held p l past).1 := rfl
  have g3 : (Dec.adv p l past).want = p.raw (Dec.load p l) (Dec.now p past) := rfl
  have g4 : (Dec.adv p l past).load = Dec.load p l := rfl
  have g5 : Adv.held p (Dec.adv p l past).tick (Dec.adv p l past).want past = Dec.held p l past := rfl
  unfold Aud.rule
  rw [g5, g4, g3]
  have h2 : Aud.has p (Dec.adv p l past).repl = true := by
    unfold Aud.has
    rw [hok, decide_eq_true h1.1, decide_eq_true h1.2]
    rfl
  rw [h2, g1, g2]
  generalize p.bound (Dec.held p l past).1 = t
  generalize (Dec.held p l past).2 = hh
  generalize Dec.now p past = nw
  generalize p.open' (Dec.load p l) nw = op
  have hw : 1 ≤ Dec.why p hh op nw t ∧ Dec.why p hh op nw t ≤ 6 := by
    unfold Dec.why
    repeat' split
    all_goals omega
  have h4 : hh = (Dec.why p hh op nw t == 4) := by
    unfold Dec.why
    cases hh with
    | true => rfl
    | false =>
      rw [if_neg (by simp)]
      repeat' split
      all_goals rfl
  have h5 : Aud.moved (Dec.why p hh op nw t) t nw = true := by
    cases hh with
    | true => rfl
    | false =>
      have e0 : Dec.why p false op nw t = if p.mx < op then 6 else if op < p.mn then 5 else if nw < t then 2 else if t < nw then 3 else 1 := rfl
      rw [e0]
      by_cases c1 : p.mx < op
      · rw [if_pos c1]; rfl
      rw [if_neg c1]
      by_cases c2 : op < p.mn
      · rw [if_pos c2]; rfl
      rw [if_neg c2]
      by_cases c3 : nw < t
      · rw [if_pos c3]; exact decide_eq_true c3
      rw [if_neg c3]
      by_cases c4 : t < nw
      · rw [if_pos c4]; exact decide_eq_true c4
      rw [if_neg c4]
      have c5 : t = nw := by omega
      subst c5
      exact beq_self_eq_true t
  unfold Aud.rule'
  rw [if_neg (by omega), if_neg (by simp), if_neg (by simp), if_neg (by rw [← h4]; simp), h5]
  rfl

theorem Aud.kept_app (room : Int) (l : List Adv) (a : Adv) : ∀ k, k ≤ l.length → Aud.kept room (l ++ [a]) k = Aud.kept room l k
  | 0, _ => rfl
  | k + 1, hk => by
    have ih := Aud.kept_app room l a k (by omega)
    unfold Aud.kept
    rw [ih, List.getElem?_append_left (by omega)]

/-- Of all that is told nothing breaks a rule; what is kept is what an audit keeps. -/
theorem FS.fine (p : Pol) (hp : p.In) (sa ro : Nat) (h1 : 1 ≤ sa) (h2 : 1 ≤ ro ∧ ro ≤ 64) (l : List Samp) (hl : ∀ a ∈ l, a.In) : ∀ k, k ≤ l.length →
    (FS.at p sa ro l k).past = Aud.kept (ro : Int) (FS.at p sa ro l k).out (FS.at p sa ro l k).out.length ∧ (∀ j, j < (FS.at p sa ro l k).out.length → Aud.at p (ro : Int) (FS.at p sa ro l k).out j = 0) ∧ (∀ a ∈ (FS.at p sa ro l k).out, a.In)
  | 0, _ => ⟨rfl, fun j hj => absurd hj (Nat.not_lt_zero j), by simp [FS.at, FS.zero]⟩
  | k + 1, hk => by
    obtain ⟨i1, i2, i3⟩ := FS.fine p hp sa ro h1 h2 l hl k (by omega)
    obtain ⟨_, _, g3, _, _, _⟩ := FS.good p hp sa ro h1 h2.1 l hl k (by omega)
    rw [FS.at_next p sa ro l k (by omega)]
    have hx : (l[k]?.getD default).In := by rw [List.getElem?_eq_getElem (by omega)]; exact hl _ (List.getElem_mem _)
    generalize l[k]?.getD default = x at hx
    generalize FS.at p sa ro l k = f at i1 i2 i3 g3
    unfold FS.step
    by_cases hc : Ser.code x = 0
    · rw [if_neg (by simpa using hc)]
      have q3 := Ser.put_In g3 sa x hx
      by_cases he : Dec.err p (Ser.put f.sam sa x) = 0
      · rw [if_pos he]
        have hok := (Dec.err_zero he).1
        have ho := Dec.of_In p hp hok _ (Ser.put_pos f.sam h1 x) q3 f.past
        have hz := Aud.dec_fine (past := f.past) he
        generalize Dec.of p (Ser.put f.sam sa x) f.past = d at ho hz
        have hkl : (f.out ++ [d])[f.out.length]? = some d := by simp
        refine ⟨?_, ?_, ?_⟩
        · show Ring.next ro f.past d = Aud.kept _ (f.out ++ [d]) (f.out ++ [d]).length
          rw [List.length_append, List.length_singleton]
          unfold Aud.kept
          rw [if_pos (by omega), Aud.kept_app _ _ _ _ (Nat.le_refl _), ← i1, hkl]
          rfl
        · intro j hj
          show Aud.at p _ (f.out ++ [d]) j = 0
          have hj2 : j < f.out.length + 1 := by simpa using hj
          unfold Aud.at
          rw [Aud.kept_app _ _ _ _ (by omega)]
          by_cases e : j = f.out.length
          · subst e
            rw [← i1, hkl]
            exact hz
          · rw [List.getElem?_append_left (by omega)]
            exact i2 j (by omega)
        · intro a ha
          rcases List.mem_append.1 ha with h | h
          · exact i3 a h
          · obtain rfl : a = d := List.mem_singleton.1 h
            exact ho
      · rw [if_neg he]
        exact ⟨i1, i2, i3⟩
    · rw [if_pos (by simpa using hc)]
      exact ⟨i1, i2, i3⟩

theorem Aud.look_all {ru : Nat → Int} : ∀ k i, (∀ j, j < i + k → ru j = 0) → Aud.look ru i k = (-1, 0)
  | 0, _, _ => rfl
  | k + 1, i, h => by
    unfold Aud.look
    rw [if_pos (h i (by omega))]
    exact Aud.look_all k (i + 1) (fun j hj => h j (by omega))

theorem Fol.fine (p : Pol) (hp : p.In) (l : List Samp) (hl : ∀ a ∈ l, a.In) (sa ro : Int) : Aud.look (Aud.at p ro (Fol.of p l sa ro)) 0 ((Fol.of p l sa ro).length - 0) = (-1, 0) ∧ ∀ a ∈ Fol.of p l sa ro, a.In := by
  unfold Fol.of
  split
  · exact ⟨rfl, by simp⟩
  · rename_i h
    obtain ⟨_, i2, i3⟩ := FS.fine p hp sa.toNat ro.toNat (by omega) (by omega) l hl _ (Nat.le_refl _)
    rw [show ((ro.toNat : Nat) : Int) = ro by omega] at i2
    exact ⟨Aud.look_all _ 0 (fun j hj => i2 j (by omega)), i3⟩
end Go.Proofs.Ytcanbagnehdbiaa
