/- A series: how many, the last one; one that was cloned; a nil one. -/
import Derived.Test.YtapgcbjlgekpeaaJSer11
import Derived.Deep.MidRow
namespace Go.Proofs.Ytapgcbjlgekpeaa
open Go.ChangeShapes Go.WideShapes Go.ChangeAt Go.RowKit

theorem sampSize2 : (Try.prog.info? 23).map (·.size) = some 2 := by kernel_rfl
theorem serSize2 : (Try.prog.info? 201).map (·.size) = some 2 := by kernel_rfl
theorem samp_mid {w : World} {B n g cap first : Nat} {xs cs : List Value} (h : Owns w B 2 (.slice (some ⟨g, 0, none⟩) n cap) n xs) (hf : first < n) (hy : ∀ j u, cs[j]? = some u → xs[first * 2 + j]? = some u) : w.rangeAt g (first * 2) cs := by
  intro j u hu
  obtain ⟨_, hO⟩ := h
  rcases hO with ⟨_, h0⟩ | ⟨g', cap', h0, _, _, _, h5, _⟩
  · omega
  · simp at h0; rw [h0.1]; exact h5 _ _ (hy j u hu)

theorem ser_list_nil (w : World) : Calls Try.prog 136 #[.pointer none] w fun e w' => e = .returned (.slice none 0 0) ∧ w = w' := by
  go_enter Try.func136, Try.ntmps136
  go_wp2
  go_ret
  exact ⟨rfl, rfl⟩
theorem ser_clone_nil (w : World) : Calls Try.prog 167 #[.pointer none] w fun e w' => e = .returned (.pointer none) ∧ w = w' := by
  go_enter Try.func167, Try.ntmps167
  go_wp2
  go_ret
  exact ⟨rfl, rfl⟩
theorem ser_trim_nil (t : Int) (w : World) : Calls Try.prog 138 #[.pointer none, .int .i64 t] w fun e w' => e = .returned (.int .i64 0) ∧ w = w' := by
  go_enter Try.func138, Try.ntmps138
  go_wp2
  go_ret
  exact ⟨rfl, rfl⟩
theorem ser_put_nil (x : Samp) (hc : Ser.code x = 0) (w : World) : Calls Try.prog 135 #[.pointer none, .int .i64 x.tick, .int .i64 x.val] w fun e w' => e = .returned (.int .i64 5) ∧ w = w' := by
  have F1 := Lib.hid (ser_right x)
  rw [hc] at F1
  clear hc
  go_enter Try.func135, Try.ntmps135
  go_wp2_with ((with_reducible refine (F1.out _).mono ?_); rintro e w1 ⟨rfl, rfl⟩)
  go_ret
  exact ⟨rfl, rfl⟩

end Go.Proofs.Ytapgcbjlgekpeaa
