/- Layer 27: the law, walked: a run of some picks, and a run of the others behind it, joined. -/
import Derived.Test.YtldhbgefpfmkmaaJLaws27d
namespace Go.Proofs.Ytldhbgefpfmkmaa
open Go.ChangeShapes Go.WideShapes Go.ChangeAt Go.RowKit

theorem schedParts_walk (q : Option Addr) (cap : Nat) (l : List Toy) (hl : ∀ a ∈ l, a.In) (hb : l.length ≤ 9223372036854775807) (pq : Option Addr) (pc : Nat) (P : List Int) (hP : ∀ x ∈ P, I64 x) (hm : P.length ≤ 9223372036854775807) (hpc : P.length ≤ pc) (hpn : pq = none → P.length = 0 ∧ pc = 0) (cut : Nat) (hc : cut < 256) (w : World) (hs : Toys w q l) (hi : Ints .i64 w pq P) :
    Calls Try.prog 10 #[.slice q l.length cap, .slice pq P.length pc, .int .u8 cut] w fun e w' => e = .returned (.bool true) ∧ Below w.heap.size w w' := by
  obtain ⟨m, em⟩ : ∃ m, P.length = m := ⟨_, rfl⟩
  rw [em] at hm hpc hpn ⊢
  cases hf : Tk.few l m with
  | false => exact schedParts_out q cap _ l m pc cut w pq hb hm hs rfl hf
  | true =>
    rcases Nat.eq_zero_or_pos m with h0 | h0
    · subst h0
      cases pq with
      | none =>
        obtain ⟨_, rfl⟩ := hpn rfl
        exact schedParts_none q cap _ l P cut w 0 hl hP (Nat.le_refl _) hs rfl em hc hi hf
      | some ad0 => exact schedParts_some q cap _ l P pc cut w ad0 hl hP (Nat.zero_le _) hs rfl em hc hi hf
    · obtain ⟨bq, off, rfl, _⟩ := Sl.pos hi (by omega)
      have hkm : cut % (m + 1) ≤ m := by have := Nat.mod_lt cut (show 0 < m + 1 by omega); omega
      obtain ⟨k, ek⟩ : ∃ k, k = cut % (m + 1) := ⟨_, rfl⟩
      rw [← ek] at hkm
      rcases Nat.lt_or_ge k pc with hk | hk
      · exact schedParts_in q cap _ l m P pc cut w bq off k ek hk hl hP hpc hs rfl em hc hi hf
      · obtain rfl : pc = k := by omega
        exact schedParts_in0 q cap _ l m P cut w bq off pc ek trivial hl hP hpc hs rfl em hc hi hf
end Go.Proofs.Ytldhbgefpfmkmaa
