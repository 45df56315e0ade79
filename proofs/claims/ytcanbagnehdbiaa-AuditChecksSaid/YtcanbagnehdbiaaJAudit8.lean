/- Layer 48: how many have each rule: what sees one. -/
import Derived.Test.YtcanbagnehdbiaaJAud
namespace Go.Proofs.Ytcanbagnehdbiaa
open Go.ChangeShapes Go.WideShapes Go.ChangeAt Go.RowKit

def Aud.row6 (t : Nat → Int) : Array Value := #[.int .i64 (t 0), .int .i64 (t 1), .int .i64 (t 2), .int .i64 (t 3), .int .i64 (t 4), .int .i64 (t 5)]
theorem Aud.row6_get (t : Nat → Int) (j : Nat) (hj : j < 6) : (Aud.row6 t)[j]? = some (.int .i64 (t j)) := by
  match j, hj with
  | 0, _ => rfl
  | 1, _ => rfl
  | 2, _ => rfl
  | 3, _ => rfl
  | 4, _ => rfl
  | 5, _ => rfl
theorem Aud.row6_set (t : Nat → Int) (j : Nat) (hj : j < 6) (x : Int) : (Aud.row6 t).setIfInBounds j (.int .i64 x) = Aud.row6 (fun i => if i = j then x else t i) := by
  match j, hj with
  | 0, _ => rfl
  | 1, _ => rfl
  | 2, _ => rfl
  | 3, _ => rfl
  | 4, _ => rfl
  | 5, _ => rfl
set_option maxRecDepth 100000 in
theorem see_counts (i : Int) (r : Nat) (hr : r < 6) (c : Nat) (t : Nat → Int) (ht : 0 ≤ t r ∧ t r ≤ 1000) (w0 w : World) (b0 : Nat × Obj) (bs : List (Nat × Obj)) (hM : Mem w0 w (b0 :: (c, .cells (Aud.row6 t) 30 (0, 0)) :: bs)) :
    Calls Try.prog 66 #[.int .i64 i, .int .i64 r, .pointer (some ⟨c, 0, none⟩)] w fun e w' => e = .returned (.bool true) ∧
      Mem w0 w' (b0 :: (c, .cells (Aud.row6 (fun i => if i = r then t r + 1 else t i)) 30 (0, 0)) :: bs) ∧ Turned (fun k => k = c) w w' := by
  have k1 : w.cell? ⟨c, r, none⟩ = some (.int .i64 (t r)) := hM.cell 1 r rfl (Aud.row6_get t r hr)
  have g1 : w.frozen? ⟨c, r, none⟩ = false := hM.free 1 r rfl
  have M2 : Hid (Mem w0 (w.setCell ⟨c, r, none⟩ (.int .i64 (t r + 1))) (b0 :: (c, .cells (Aud.row6 (fun i => if i = r then t r + 1 else t i)) 30 (0, 0)) :: bs)) := by
    have := hM.setCell 1 r (.int .i64 (t r + 1)) rfl
    rw [Aud.row6_set t r hr] at this
    exact this
  have T2 : Hid (Turned (fun k => k = c) w (w.setCell ⟨c, r, none⟩ (.int .i64 (t r + 1)))) := Turned.refl.setCell _ (fun _ => rfl)
  obtain ⟨v, ev⟩ : ∃ v, v = t r := ⟨_, rfl⟩
  rw [← ev] at k1 ht M2 T2
  rw [← ev]
  have h1 : (0 : Int) ≤ (r : Int) := by omega
  have h2 : (r : Int) < 6 := by omega
  clear hM ev
  go_enter Try.func66, Try.ntmps66
  go_wp2
  go_ret
  exact ⟨rfl, M2.out, T2.out⟩
end Go.Proofs.Ytcanbagnehdbiaa
