/- Laws of the walk on numbers of 128 bits that lie in memory, bit by bit. -/
import Derived.Test.YtildjnibdappnaaBits
import Derived.Test.YtildjnibdappnaaMem
namespace Go.Proofs.Ytildjnibdappnaa
open Go.ChangeShapes Go.WideShapes Go.ChangeAt Go.RowKit

theorem row_oneCell (n : Nat) (f : Nat → Bool) : (Bits.row n f).all (·.oneCell') = true := by
  rw [Array.all_eq_true_iff_forall_mem]
  intro v hv
  simp only [Bits.row, List.mem_toArray, List.mem_map, List.mem_range] at hv
  obtain ⟨i, _, rfl⟩ := hv
  rfl

theorem num_oneCell (x : Nat) : (Bits.num x).all (·.oneCell') = true := row_oneCell _ _
theorem numZero (w : World) : (Instr.alloc 155 true (.tuple #[])).run Try.prog w = .ok (.pointer (some ⟨w.heap.size, 0, none⟩)) (w.alloc (.cells (Bits.num 0) 155)) := by kernel_rfl
theorem numInfo : (Try.prog.info? 155).map (·.size) = some 128 := by kernel_rfl
theorem numBuilt : Try.prog.built 155 [] = some (Bits.num 0) := by kernel_rfl
end Go.Proofs.Ytildjnibdappnaa
