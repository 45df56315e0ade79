/- Layer 6: the laws, walked. -/
import Derived.Test.YtapgcbjlgekpeaaJZig6
import Derived.Test.YtapgcbjlgekpeaaJBase
namespace Go.Proofs.Ytapgcbjlgekpeaa
open Go.ChangeShapes Go.WideShapes Go.ChangeAt Go.RowKit

/-- '[]byte' to 'string', of bytes that lie in memory. -/
theorem run_string_bytes {P : Program} (w : World) (src dst e : TypeId) (p : Option Addr) (cap : Nat) (l : List Nat) (hs : P.underlying src = some (.slice e)) (he : P.underlying e = some (.int .u8)) (hd : P.underlying dst = some .string)
    (hl : ∀ n ∈ l, n < 256) (h : Bytes w p l) : (convert src dst (.slice p l.length cap)).run P w = .ok (.string (Str.mk l)) w := by
  refine run_string_any w src dst e p cap l hs he hd hl (fun hp => ?_) (fun ad hp j u hu => ?_)
  · rcases h with h | ⟨b, off, h, _⟩
    · exact h
    · rw [hp] at h; cases h
  · rcases h with h | ⟨b, off, h, _, hc⟩
    · rw [List.eq_nil_of_length_eq_zero h] at hu
      simp [byteVals] at hu
    · rw [hp] at h
      cases h
      have hj : j < l.length := by
        have := (List.getElem?_eq_some_iff.1 hu).1
        rwa [byteVals_len] at this
      have hadd : (⟨b, off, none⟩ : Addr).add j = ⟨b, off + j, none⟩ := by unfold Addr.add; split <;> simp_all
      rw [hadd, hc j (by omega)]
      simp [byteVals, hj] at hu
      simp [hj, hu]

theorem bytes_alloc (w : World) (l : List Nat) (T : TypeId) (cs : Array Value) (h : cs = (byteVals l).toArray) : Bytes (w.alloc (.cells cs T)) (some ⟨w.heap.size, 0, none⟩) l := by
  subst h
  refine .inr ⟨w.heap.size, 0, rfl, by simp, fun j hj => ?_⟩
  rw [World.cell?_alloc_at _ _ _ _ (by simp), Nat.zero_add]
  have hj' : j < l.length := by omega
  simp [byteVals, hj']
theorem bytes_of_ints {w : World} {p : Option Addr} {m : List Nat} (h : Ints .u8 w p (m.map Int.ofNat)) : Bytes w p m := by
  unfold Ints at h
  rw [List.length_map] at h
  rcases h with h | ⟨b, off, hp, hb, hc⟩
  · exact .inl h
  · refine .inr ⟨b, off, hp, hb, fun j hj => ?_⟩
    rw [hc j hj]
    have hj' : j < m.length := by omega
    simp [hj']
end Go.Proofs.Ytapgcbjlgekpeaa
