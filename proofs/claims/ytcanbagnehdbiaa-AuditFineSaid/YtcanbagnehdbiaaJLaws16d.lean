/- Layer 16: the law, walked: decisions made sample by sample. -/
import Derived.Test.YtcanbagnehdbiaaJFol3
import Derived.Test.YtcanbagnehdbiaaJLaws16
namespace Go.Proofs.Ytcanbagnehdbiaa
open Go.ChangeShapes Go.WideShapes Go.ChangeAt Go.RowKit

theorem follow_of (p : Pol) (hp : p.In) (q : Option Addr) (cap : Nat) (l : List Samp) (hl : ∀ a ∈ l, a.In) (hb : l.length ≤ 1000) (sa ro : Int) (w : World) (hs : Samps w q l) :
    Calls Try.prog 19 #[.agg #[.int .i64 p.mn, .int .i64 p.mx, .int .i64 p.tg, .int .i64 p.tl, .int .i64 p.wi, .int .i64 p.ho], .slice q l.length cap, .int .i64 sa, .int .i64 ro] w fun e w' => ∃ (q' : Option Addr) (c : Nat), e = .returned (.slice q' (Fol.of p l sa ro).length c) ∧ Advs w' q' (Fol.of p l sa ro) ∧ Below w.heap.size w w' := by
  by_cases h : sa < 1 ∨ 256 < sa ∨ ro < 1 ∨ 64 < ro
  · have e0 : Fol.of p l sa ro = [] := if_pos h
    rw [e0]
    exact (follow_none p q l.length cap sa ro h w).mono fun e w' ⟨a, b⟩ => ⟨none, 0, a, .inl rfl, b⟩
  · have e0 : Fol.of p l sa ro = (FS.at p sa.toNat ro.toNat l l.length).out := if_neg h
    have es : sa = (sa.toNat : Int) := by omega
    have er : ro = (ro.toNat : Int) := by omega
    rw [e0]
    have := follow_some p hp q cap l hl hb sa.toNat ro.toNat (by omega) (by omega) (by omega) (by omega) w hs
    rw [← es, ← er] at this
    exact this.mono fun e w' ⟨u, a, b, c⟩ => by
      obtain ⟨q', c', rfl, _, h3⟩ := advs_of_owns b
      exact ⟨q', c', a, h3, c⟩
theorem FS.out_le (p : Pol) (sa ro : Nat) (l : List Samp) : (FS.at p sa ro l l.length).out.length ≤ l.length := by
  have h : ∀ k, k ≤ l.length → (FS.at p sa ro l k).out.length ≤ k := by
    intro k
    induction k with
    | zero => intro _; exact Nat.le_of_eq rfl
    | succ k ih =>
      intro hk
      have := ih (by omega)
      rw [FS.at_next p sa ro l k (by omega)]
      unfold FS.step
      split
      · omega
      · split <;> simp <;> omega
  exact h _ (Nat.le_refl _)
theorem Fol.length_le (p : Pol) (l : List Samp) (sa ro : Int) : (Fol.of p l sa ro).length ≤ l.length := by
  unfold Fol.of
  split
  · simp
  · exact FS.out_le _ _ _ _

end Go.Proofs.Ytcanbagnehdbiaa
