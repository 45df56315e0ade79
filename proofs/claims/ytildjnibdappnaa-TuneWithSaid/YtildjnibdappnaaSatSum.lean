/- The sums of layer 1. -/
import Derived.Test.YtildjnibdappnaaSat
namespace Go.Proofs.Ytildjnibdappnaa
open Go.ChangeShapes Go.WideShapes Go.ChangeAt Go.RowKit

def Sat.sum (l : List Int) : Int := l.foldl (fun s n => Sat.clamp (s + n)) 0

theorem Sat.sum_I64 (l : List Int) : I64 (Sat.sum l) := by
  have h : ∀ (l : List Int) (s : Int), I64 s → I64 (l.foldl (fun s n => Sat.clamp (s + n)) s) := by
    intro l
    induction l with
    | nil => exact fun s h => h
    | cons a l ih => exact fun s _ => ih _ (Sat.clamp_I64 _)
  exact h l 0 (by unfold I64; omega)

theorem Sat.sum_step (l : List Int) (k : Nat) (h : k < l.length) : Sat.sum (l.take (k + 1)) = Sat.clamp (Sat.sum (l.take k) + l[k]?.getD 0) := by
  unfold Sat.sum
  rw [List.take_add_one, List.foldl_append]
  simp [List.getElem?_eq_getElem h]

theorem sat_sum (p : Option Addr) (cap : Nat) (l : List Int) (w : World) (hs : Ints .i64 w p l) (hl : ∀ n ∈ l, I64 n) (hb : l.length ≤ 9223372036854775807) :
    Calls Try.prog 128 #[.slice p l.length cap] w fun e w' => e = .returned (.int .i64 (Sat.sum l)) ∧ w = w' := by
  have HS := Lib.hid hs
  have HL := Lib.hid hl
  clear hs hl
  obtain ⟨n, hn⟩ : ∃ n, n = l.length := ⟨_, rfl⟩
  rw [← hn] at hb ⊢
  have HN := Lib.hid hn
  clear hn
  go_enter Try.func128, Try.ntmps128
  go_wp2
  go_loop [3, 8] (fun s i => ∃ k : Nat, k ≤ n ∧ i = .int .i64 k ∧ s = .int .i64 (Sat.sum (l.take k))) (fun _ i => n - (intOf i).toNat)
  case atStart => exact ⟨0, by omega, rfl, rfl⟩
  case round =>
    obtain ⟨k, hk, rfl, rfl⟩ := hrel
    by_cases hlt : k < n
    · have hkl : k < l.length := by have := HN.out; omega
      obtain ⟨b, off, rfl, _, hc⟩ := HS.out.pos (by omega)
      have hcell := hc k (by omega)
      have hI : I64 (l[k]?.getD 0) := HL.out _ (by rw [List.getElem?_eq_getElem hkl]; exact List.getElem_mem _)
      have hJ := Sat.sum_I64 (l.take k)
      have HT := Lib.hid (Sat.sum_step l k hkl)
      clear hc hkl
      go_wp2_with (go_at_call 72; (with_reducible refine (sat_add _ _ (by assumption) (by assumption) _).mono ?_); rintro e w' ⟨rfl, rfl⟩)
      go_round
      case rel => exact ⟨k + 1, by omega, by go_num, int_eq HT.out.symm⟩
      case measure => simp [intOf]; omega
    · obtain rfl : k = n := by omega
      have HE : Hid (Sat.sum (l.take k) = Sat.sum l) := by show Sat.sum (l.take k) = Sat.sum l; rw [HN.out, List.take_length]
      go_wp2
      go_ret
      exact ⟨ret_int HE.out, rfl⟩

end Go.Proofs.Ytildjnibdappnaa
