/-
  No cell of these rows narrows 'for every input' (looked for: loops, veiled, ifaces, maps, wideKeys, modest, calm, conditions, laid).
  DERIVED. THE GIVEN ROWS OF THIS SEAT. 11 by the template 'for every input the law returns true; each argument reads behind the call as it read before'; 0 by the template 'total and deterministic' (their statements: YtdchooggindihaaTotals.lean).
  GIVEN WITH THE SEED: the statements are not yours to turn. If you find one false, say at which input.
  Laid BY PROGRAM, IN A SANDBOX (cutbox-rows.mjs): the forced cells as the released guide's own fill.sh prints them over the translation e7751cf8e72bde31… (all of the seat's roots in one cut). By AI agents, Wed Nov 11 2026. No macro, syntax, notation, axiom, sorry.
-/
import Derived.Test.YtdchooggindihaaChecked
import GoSem.Claim
import GoSem.ClaimJoined
import GoSem.ClaimMapViews
import Derived.JoinedTies
import Derived.KernelRfl
namespace Go.Proofs.Ytdchooggindihaa
/- THE CELL 'sum', in the pinned program and in every row, IS THE sha256 OF THE DUMP (.gsa) THAT YtdchooggindihaaProg.lean LOADS. Nothing in Lean hashes anything: it is a label: what it is worth is what the hold of that sum in a sandbox is worth. -/
noncomputable def Try.pinned : Pinned := { name := "ytdchooggindihaa", sum := "e7751cf8e72bde3176a573ac3256beb248fe83b6bcfe3fa4b4f338ee569ab9cc", checked := Try.checked }
namespace Rows
def none {H : Type} : Left H := { results := [], args := [] }

/-- 'flywheellaw09.WindowTells': WHATEVER THE INPUT: true; the input reads as it did. -/
def windowTellsSpec : ChangeSpec := { name := "windowTells", fn := fun _ => fun
  | [d1, d2, d3, d4] => { results := [.lit (.bool true)], args := [d1, d2, d3, d4] }
  | _ => none }
def windowTellsRow : OpenClaim := { program := "ytdchooggindihaa", sum := "e7751cf8e72bde3176a573ac3256beb248fe83b6bcfe3fa4b4f338ee569ab9cc", func := "flywheel/flywheellaw09.WindowTells", spec := "windowTells", apart := false }
def WindowTellsSaid : Prop := windowTellsRow.holds Try.pinned (OpenSpec.ofChange windowTellsSpec)

/-- ITS FALSE NEIGHBOUR: 'it returns false'. Refute it at one input. -/
def windowTellsWrong : ChangeSpec := { name := "windowTells", fn := fun _ => fun
  | [d1, d2, d3, d4] => { results := [.lit (.bool false)], args := [d1, d2, d3, d4] }
  | _ => none }
def WindowTellsWrongFalsely : Prop := windowTellsRow.holds Try.pinned (OpenSpec.ofChange windowTellsWrong)

/-- 'flywheellaw09.WindowOrder': WHATEVER THE INPUT: true; the input reads as it did. -/
def windowOrderSpec : ChangeSpec := { name := "windowOrder", fn := fun _ => fun
  | [d1, d2] => { results := [.lit (.bool true)], args := [d1, d2] }
  | _ => none }
def windowOrderRow : OpenClaim := { program := "ytdchooggindihaa", sum := "e7751cf8e72bde3176a573ac3256beb248fe83b6bcfe3fa4b4f338ee569ab9cc", func := "flywheel/flywheellaw09.WindowOrder", spec := "windowOrder", apart := false }
def WindowOrderSaid : Prop := windowOrderRow.holds Try.pinned (OpenSpec.ofChange windowOrderSpec)

/-- ITS FALSE NEIGHBOUR: 'it returns false'. Refute it at one input. -/
def windowOrderWrong : ChangeSpec := { name := "windowOrder", fn := fun _ => fun
  | [d1, d2] => { results := [.lit (.bool false)], args := [d1, d2] }
  | _ => none }
def WindowOrderWrongFalsely : Prop := windowOrderRow.holds Try.pinned (OpenSpec.ofChange windowOrderWrong)

/-- 'flywheellaw09.WindowMerges': WHATEVER THE INPUT: true; the input reads as it did. -/
def windowMergesSpec : ChangeSpec := { name := "windowMerges", fn := fun _ => fun
  | [d1, d2] => { results := [.lit (.bool true)], args := [d1, d2] }
  | _ => none }
def windowMergesRow : OpenClaim := { program := "ytdchooggindihaa", sum := "e7751cf8e72bde3176a573ac3256beb248fe83b6bcfe3fa4b4f338ee569ab9cc", func := "flywheel/flywheellaw09.WindowMerges", spec := "windowMerges", apart := false }
def WindowMergesSaid : Prop := windowMergesRow.holds Try.pinned (OpenSpec.ofChange windowMergesSpec)

/-- ITS FALSE NEIGHBOUR: 'it returns false'. Refute it at one input. -/
def windowMergesWrong : ChangeSpec := { name := "windowMerges", fn := fun _ => fun
  | [d1, d2] => { results := [.lit (.bool false)], args := [d1, d2] }
  | _ => none }
def WindowMergesWrongFalsely : Prop := windowMergesRow.holds Try.pinned (OpenSpec.ofChange windowMergesWrong)

/-- 'flywheellaw09.WindowEach': WHATEVER THE INPUT: true; the input reads as it did. -/
def windowEachSpec : ChangeSpec := { name := "windowEach", fn := fun _ => fun
  | [d1, d2, d3, d4] => { results := [.lit (.bool true)], args := [d1, d2, d3, d4] }
  | _ => none }
def windowEachRow : OpenClaim := { program := "ytdchooggindihaa", sum := "e7751cf8e72bde3176a573ac3256beb248fe83b6bcfe3fa4b4f338ee569ab9cc", func := "flywheel/flywheellaw09.WindowEach", spec := "windowEach", apart := false }
def WindowEachSaid : Prop := windowEachRow.holds Try.pinned (OpenSpec.ofChange windowEachSpec)

/-- ITS FALSE NEIGHBOUR: 'it returns false'. Refute it at one input. -/
def windowEachWrong : ChangeSpec := { name := "windowEach", fn := fun _ => fun
  | [d1, d2, d3, d4] => { results := [.lit (.bool false)], args := [d1, d2, d3, d4] }
  | _ => none }
def WindowEachWrongFalsely : Prop := windowEachRow.holds Try.pinned (OpenSpec.ofChange windowEachWrong)

/-- 'flywheellaw13.ControlTells': WHATEVER THE INPUT: true; the input reads as it did. -/
def controlTellsSpec : ChangeSpec := { name := "controlTells", fn := fun _ => fun
  | [d1, d2, d3, d4] => { results := [.lit (.bool true)], args := [d1, d2, d3, d4] }
  | _ => none }
def controlTellsRow : OpenClaim := { program := "ytdchooggindihaa", sum := "e7751cf8e72bde3176a573ac3256beb248fe83b6bcfe3fa4b4f338ee569ab9cc", func := "flywheel/flywheellaw13.ControlTells", spec := "controlTells", apart := false }
def ControlTellsSaid : Prop := controlTellsRow.holds Try.pinned (OpenSpec.ofChange controlTellsSpec)

/-- ITS FALSE NEIGHBOUR: 'it returns false'. Refute it at one input. -/
def controlTellsWrong : ChangeSpec := { name := "controlTells", fn := fun _ => fun
  | [d1, d2, d3, d4] => { results := [.lit (.bool false)], args := [d1, d2, d3, d4] }
  | _ => none }
def ControlTellsWrongFalsely : Prop := controlTellsRow.holds Try.pinned (OpenSpec.ofChange controlTellsWrong)

/-- 'flywheellaw13.ControlMore': WHATEVER THE INPUT: true; the input reads as it did. -/
def controlMoreSpec : ChangeSpec := { name := "controlMore", fn := fun _ => fun
  | [d1, d2, d3, d4] => { results := [.lit (.bool true)], args := [d1, d2, d3, d4] }
  | _ => none }
def controlMoreRow : OpenClaim := { program := "ytdchooggindihaa", sum := "e7751cf8e72bde3176a573ac3256beb248fe83b6bcfe3fa4b4f338ee569ab9cc", func := "flywheel/flywheellaw13.ControlMore", spec := "controlMore", apart := false }
def ControlMoreSaid : Prop := controlMoreRow.holds Try.pinned (OpenSpec.ofChange controlMoreSpec)

/-- ITS FALSE NEIGHBOUR: 'it returns false'. Refute it at one input. -/
def controlMoreWrong : ChangeSpec := { name := "controlMore", fn := fun _ => fun
  | [d1, d2, d3, d4] => { results := [.lit (.bool false)], args := [d1, d2, d3, d4] }
  | _ => none }
def ControlMoreWrongFalsely : Prop := controlMoreRow.holds Try.pinned (OpenSpec.ofChange controlMoreWrong)

/-- 'flywheellaw13.ControlEnds': WHATEVER THE INPUT: true; the input reads as it did. -/
def controlEndsSpec : ChangeSpec := { name := "controlEnds", fn := fun _ => fun
  | [d1, d2] => { results := [.lit (.bool true)], args := [d1, d2] }
  | _ => none }
def controlEndsRow : OpenClaim := { program := "ytdchooggindihaa", sum := "e7751cf8e72bde3176a573ac3256beb248fe83b6bcfe3fa4b4f338ee569ab9cc", func := "flywheel/flywheellaw13.ControlEnds", spec := "controlEnds", apart := false }
def ControlEndsSaid : Prop := controlEndsRow.holds Try.pinned (OpenSpec.ofChange controlEndsSpec)

/-- ITS FALSE NEIGHBOUR: 'it returns false'. Refute it at one input. -/
def controlEndsWrong : ChangeSpec := { name := "controlEnds", fn := fun _ => fun
  | [d1, d2] => { results := [.lit (.bool false)], args := [d1, d2] }
  | _ => none }
def ControlEndsWrongFalsely : Prop := controlEndsRow.holds Try.pinned (OpenSpec.ofChange controlEndsWrong)

/-- 'flywheellaw14.HistoryKeeps': WHATEVER THE INPUT: true; the input reads as it did. -/
def historyKeepsSpec : ChangeSpec := { name := "historyKeeps", fn := fun _ => fun
  | [d1, d2, d3] => { results := [.lit (.bool true)], args := [d1, d2, d3] }
  | _ => none }
def historyKeepsRow : OpenClaim := { program := "ytdchooggindihaa", sum := "e7751cf8e72bde3176a573ac3256beb248fe83b6bcfe3fa4b4f338ee569ab9cc", func := "flywheel/flywheellaw14.HistoryKeeps", spec := "historyKeeps", unfollowed := true, recurses := true, apart := false }
def HistoryKeepsSaid : Prop := historyKeepsRow.holds Try.pinned (OpenSpec.ofChange historyKeepsSpec)

/-- ITS FALSE NEIGHBOUR: 'it returns false'. Refute it at one input. -/
def historyKeepsWrong : ChangeSpec := { name := "historyKeeps", fn := fun _ => fun
  | [d1, d2, d3] => { results := [.lit (.bool false)], args := [d1, d2, d3] }
  | _ => none }
def HistoryKeepsWrongFalsely : Prop := historyKeepsRow.holds Try.pinned (OpenSpec.ofChange historyKeepsWrong)

/-- 'flywheellaw14.HistoryTells': WHATEVER THE INPUT: true; the input reads as it did. -/
def historyTellsSpec : ChangeSpec := { name := "historyTells", fn := fun _ => fun
  | [d1, d2, d3] => { results := [.lit (.bool true)], args := [d1, d2, d3] }
  | _ => none }
def historyTellsRow : OpenClaim := { program := "ytdchooggindihaa", sum := "e7751cf8e72bde3176a573ac3256beb248fe83b6bcfe3fa4b4f338ee569ab9cc", func := "flywheel/flywheellaw14.HistoryTells", spec := "historyTells", unfollowed := true, recurses := true, apart := false }
def HistoryTellsSaid : Prop := historyTellsRow.holds Try.pinned (OpenSpec.ofChange historyTellsSpec)

/-- ITS FALSE NEIGHBOUR: 'it returns false'. Refute it at one input. -/
def historyTellsWrong : ChangeSpec := { name := "historyTells", fn := fun _ => fun
  | [d1, d2, d3] => { results := [.lit (.bool false)], args := [d1, d2, d3] }
  | _ => none }
def HistoryTellsWrongFalsely : Prop := historyTellsRow.holds Try.pinned (OpenSpec.ofChange historyTellsWrong)

/-- 'flywheellaw15.SteadyHolds': WHATEVER THE INPUT: true; the input reads as it did. -/
def steadyHoldsSpec : ChangeSpec := { name := "steadyHolds", fn := fun _ => fun
  | [d1, d2, d3, d4] => { results := [.lit (.bool true)], args := [d1, d2, d3, d4] }
  | _ => none }
def steadyHoldsRow : OpenClaim := { program := "ytdchooggindihaa", sum := "e7751cf8e72bde3176a573ac3256beb248fe83b6bcfe3fa4b4f338ee569ab9cc", func := "flywheel/flywheellaw15.SteadyHolds", spec := "steadyHolds", apart := false }
def SteadyHoldsSaid : Prop := steadyHoldsRow.holds Try.pinned (OpenSpec.ofChange steadyHoldsSpec)

/-- ITS FALSE NEIGHBOUR: 'it returns false'. Refute it at one input. -/
def steadyHoldsWrong : ChangeSpec := { name := "steadyHolds", fn := fun _ => fun
  | [d1, d2, d3, d4] => { results := [.lit (.bool false)], args := [d1, d2, d3, d4] }
  | _ => none }
def SteadyHoldsWrongFalsely : Prop := steadyHoldsRow.holds Try.pinned (OpenSpec.ofChange steadyHoldsWrong)

/-- 'flywheellaw15.SteadyTells': WHATEVER THE INPUT: true; the input reads as it did. -/
def steadyTellsSpec : ChangeSpec := { name := "steadyTells", fn := fun _ => fun
  | [d1, d2] => { results := [.lit (.bool true)], args := [d1, d2] }
  | _ => none }
def steadyTellsRow : OpenClaim := { program := "ytdchooggindihaa", sum := "e7751cf8e72bde3176a573ac3256beb248fe83b6bcfe3fa4b4f338ee569ab9cc", func := "flywheel/flywheellaw15.SteadyTells", spec := "steadyTells", apart := false }
def SteadyTellsSaid : Prop := steadyTellsRow.holds Try.pinned (OpenSpec.ofChange steadyTellsSpec)

/-- ITS FALSE NEIGHBOUR: 'it returns false'. Refute it at one input. -/
def steadyTellsWrong : ChangeSpec := { name := "steadyTells", fn := fun _ => fun
  | [d1, d2] => { results := [.lit (.bool false)], args := [d1, d2] }
  | _ => none }
def SteadyTellsWrongFalsely : Prop := steadyTellsRow.holds Try.pinned (OpenSpec.ofChange steadyTellsWrong)

/- THE SECOND FORM. 'bulk': how many values and letters a reading holds, each counted each time it is reached (what is shared counts as often as it is met; a slice's spare places count too). A statement '..UptoSaid' is the law's where the arguments, and the package variables that the reading takes, are together of bulk at most 1048576: NARROWER than '..Said'. Prove '..Said' where nothing that the law and all that it calls make is longer than what came in: it says more and counts as full. Else prove '..UptoSaid'. A law counts once. -/
mutual
def uptoBulk {H : Type} : DataW H → Nat
  | .lit (.string bytes) => bytes.length + 1
  | .lit _ => 1
  | .nil => 1
  | .ptr d => uptoBulk d + 1
  | .slice elems spare => uptoBulkAll elems + uptoBulkAll spare + 1
  | .agg parts => uptoBulkAll parts + 1
  | .iface _ d => uptoBulk d + 1
  | .map entries => uptoBulkEntries entries + 1
  | .held _ => 1
def uptoBulkAll {H : Type} : List (DataW H) → Nat
  | [] => 0
  | d :: r => uptoBulk d + uptoBulkAll r
def uptoBulkEntries {H : Type} : List (Lit × DataW H) → Nat
  | [] => 0
  | x :: r => uptoBulkEntry x + uptoBulkEntries r
def uptoBulkEntry {H : Type} : Lit × DataW H → Nat
  | (.string bytes, d) => bytes.length + uptoBulk d + 1
  | (_, d) => uptoBulk d + 1
 end
def uptoSmall : (H : Type) → List (DataW H) → Bool := fun _ ds => decide (uptoBulkAll ds ≤ 1048576)
def OpenSpec.upto (s : _root_.Go.ChangeSpec) : _root_.Go.OpenSpec := { _root_.Go.OpenSpec.ofChange s with cond := some uptoSmall }

/-- 'flywheellaw09.WindowTells', WHERE WHAT IT READS IS OF BULK AT MOST 1048576: true; the input reads as it did. -/
def windowTellsUptoRow : OpenClaim := { program := "ytdchooggindihaa", sum := "e7751cf8e72bde3176a573ac3256beb248fe83b6bcfe3fa4b4f338ee569ab9cc", func := "flywheel/flywheellaw09.WindowTells", spec := "windowTells", apart := false, narrowed := true }
def WindowTellsUptoSaid : Prop := windowTellsUptoRow.holds Try.pinned (OpenSpec.upto windowTellsSpec)

/-- 'flywheellaw09.WindowOrder', WHERE WHAT IT READS IS OF BULK AT MOST 1048576: true; the input reads as it did. -/
def windowOrderUptoRow : OpenClaim := { program := "ytdchooggindihaa", sum := "e7751cf8e72bde3176a573ac3256beb248fe83b6bcfe3fa4b4f338ee569ab9cc", func := "flywheel/flywheellaw09.WindowOrder", spec := "windowOrder", apart := false, narrowed := true }
def WindowOrderUptoSaid : Prop := windowOrderUptoRow.holds Try.pinned (OpenSpec.upto windowOrderSpec)

/-- 'flywheellaw09.WindowMerges', WHERE WHAT IT READS IS OF BULK AT MOST 1048576: true; the input reads as it did. -/
def windowMergesUptoRow : OpenClaim := { program := "ytdchooggindihaa", sum := "e7751cf8e72bde3176a573ac3256beb248fe83b6bcfe3fa4b4f338ee569ab9cc", func := "flywheel/flywheellaw09.WindowMerges", spec := "windowMerges", apart := false, narrowed := true }
def WindowMergesUptoSaid : Prop := windowMergesUptoRow.holds Try.pinned (OpenSpec.upto windowMergesSpec)

/-- 'flywheellaw09.WindowEach', WHERE WHAT IT READS IS OF BULK AT MOST 1048576: true; the input reads as it did. -/
def windowEachUptoRow : OpenClaim := { program := "ytdchooggindihaa", sum := "e7751cf8e72bde3176a573ac3256beb248fe83b6bcfe3fa4b4f338ee569ab9cc", func := "flywheel/flywheellaw09.WindowEach", spec := "windowEach", apart := false, narrowed := true }
def WindowEachUptoSaid : Prop := windowEachUptoRow.holds Try.pinned (OpenSpec.upto windowEachSpec)

/-- 'flywheellaw13.ControlTells', WHERE WHAT IT READS IS OF BULK AT MOST 1048576: true; the input reads as it did. -/
def controlTellsUptoRow : OpenClaim := { program := "ytdchooggindihaa", sum := "e7751cf8e72bde3176a573ac3256beb248fe83b6bcfe3fa4b4f338ee569ab9cc", func := "flywheel/flywheellaw13.ControlTells", spec := "controlTells", apart := false, narrowed := true }
def ControlTellsUptoSaid : Prop := controlTellsUptoRow.holds Try.pinned (OpenSpec.upto controlTellsSpec)

/-- 'flywheellaw13.ControlMore', WHERE WHAT IT READS IS OF BULK AT MOST 1048576: true; the input reads as it did. -/
def controlMoreUptoRow : OpenClaim := { program := "ytdchooggindihaa", sum := "e7751cf8e72bde3176a573ac3256beb248fe83b6bcfe3fa4b4f338ee569ab9cc", func := "flywheel/flywheellaw13.ControlMore", spec := "controlMore", apart := false, narrowed := true }
def ControlMoreUptoSaid : Prop := controlMoreUptoRow.holds Try.pinned (OpenSpec.upto controlMoreSpec)

/-- 'flywheellaw13.ControlEnds', WHERE WHAT IT READS IS OF BULK AT MOST 1048576: true; the input reads as it did. -/
def controlEndsUptoRow : OpenClaim := { program := "ytdchooggindihaa", sum := "e7751cf8e72bde3176a573ac3256beb248fe83b6bcfe3fa4b4f338ee569ab9cc", func := "flywheel/flywheellaw13.ControlEnds", spec := "controlEnds", apart := false, narrowed := true }
def ControlEndsUptoSaid : Prop := controlEndsUptoRow.holds Try.pinned (OpenSpec.upto controlEndsSpec)

/-- 'flywheellaw14.HistoryKeeps', WHERE WHAT IT READS IS OF BULK AT MOST 1048576: true; the input reads as it did. -/
def historyKeepsUptoRow : OpenClaim := { program := "ytdchooggindihaa", sum := "e7751cf8e72bde3176a573ac3256beb248fe83b6bcfe3fa4b4f338ee569ab9cc", func := "flywheel/flywheellaw14.HistoryKeeps", spec := "historyKeeps", unfollowed := true, recurses := true, apart := false, narrowed := true }
def HistoryKeepsUptoSaid : Prop := historyKeepsUptoRow.holds Try.pinned (OpenSpec.upto historyKeepsSpec)

/-- 'flywheellaw14.HistoryTells', WHERE WHAT IT READS IS OF BULK AT MOST 1048576: true; the input reads as it did. -/
def historyTellsUptoRow : OpenClaim := { program := "ytdchooggindihaa", sum := "e7751cf8e72bde3176a573ac3256beb248fe83b6bcfe3fa4b4f338ee569ab9cc", func := "flywheel/flywheellaw14.HistoryTells", spec := "historyTells", unfollowed := true, recurses := true, apart := false, narrowed := true }
def HistoryTellsUptoSaid : Prop := historyTellsUptoRow.holds Try.pinned (OpenSpec.upto historyTellsSpec)

/-- 'flywheellaw15.SteadyHolds', WHERE WHAT IT READS IS OF BULK AT MOST 1048576: true; the input reads as it did. -/
def steadyHoldsUptoRow : OpenClaim := { program := "ytdchooggindihaa", sum := "e7751cf8e72bde3176a573ac3256beb248fe83b6bcfe3fa4b4f338ee569ab9cc", func := "flywheel/flywheellaw15.SteadyHolds", spec := "steadyHolds", apart := false, narrowed := true }
def SteadyHoldsUptoSaid : Prop := steadyHoldsUptoRow.holds Try.pinned (OpenSpec.upto steadyHoldsSpec)

/-- 'flywheellaw15.SteadyTells', WHERE WHAT IT READS IS OF BULK AT MOST 1048576: true; the input reads as it did. -/
def steadyTellsUptoRow : OpenClaim := { program := "ytdchooggindihaa", sum := "e7751cf8e72bde3176a573ac3256beb248fe83b6bcfe3fa4b4f338ee569ab9cc", func := "flywheel/flywheellaw15.SteadyTells", spec := "steadyTells", apart := false, narrowed := true }
def SteadyTellsUptoSaid : Prop := steadyTellsUptoRow.holds Try.pinned (OpenSpec.upto steadyTellsSpec)

end Rows
end Go.Proofs.Ytdchooggindihaa
