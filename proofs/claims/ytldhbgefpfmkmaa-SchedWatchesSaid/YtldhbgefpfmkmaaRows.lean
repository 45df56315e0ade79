/-
  No cell of these rows narrows 'for every input' (looked for: loops, veiled, ifaces, maps, wideKeys, modest, calm, conditions, laid).
  DERIVED. THE GIVEN ROWS OF THIS SEAT. 11 by the template 'for every input the law returns true; each argument reads behind the call as it read before'; 0 by the template 'total and deterministic' (their statements: YtldhbgefpfmkmaaTotals.lean).
  GIVEN WITH THE SEED: the statements are not yours to turn. If you find one false, say at which input.
  Laid BY PROGRAM, IN A SANDBOX (cutbox-rows.mjs): the forced cells as the released guide's own fill.sh prints them over the translation e555113ecea03709… (all of the seat's roots in one cut). By AI agents, Wed Nov 11 2026. No macro, syntax, notation, axiom, sorry.
-/
import Derived.Test.YtldhbgefpfmkmaaChecked
import GoSem.Claim
import GoSem.ClaimJoined
import GoSem.ClaimMapViews
import Derived.JoinedTies
import Derived.KernelRfl
namespace Go.Proofs.Ytldhbgefpfmkmaa
/- THE CELL 'sum', in the pinned program and in every row, IS THE sha256 OF THE DUMP (.gsa) THAT YtldhbgefpfmkmaaProg.lean LOADS. Nothing in Lean hashes anything: it is a label: what it is worth is what the hold of that sum in a sandbox is worth. -/
noncomputable def Try.pinned : Pinned := { name := "ytldhbgefpfmkmaa", sum := "e555113ecea03709fff6cea53125ee04559fda4e94aed02421c549883ba1368f", checked := Try.checked }
namespace Rows
def none {H : Type} : Left H := { results := [], args := [] }

/-- 'flywheellaw05.RouteSplits': WHATEVER THE INPUT: true; the input reads as it did. -/
def routeSplitsSpec : ChangeSpec := { name := "routeSplits", fn := fun _ => fun
  | [d1, d2] => { results := [.lit (.bool true)], args := [d1, d2] }
  | _ => none }
def routeSplitsRow : OpenClaim := { program := "ytldhbgefpfmkmaa", sum := "e555113ecea03709fff6cea53125ee04559fda4e94aed02421c549883ba1368f", func := "flywheel/flywheellaw05.RouteSplits", spec := "routeSplits", unfollowed := true, recurses := true, apart := false }
def RouteSplitsSaid : Prop := routeSplitsRow.holds Try.pinned (OpenSpec.ofChange routeSplitsSpec)

/-- ITS FALSE NEIGHBOUR: 'it returns false'. Refute it at one input. -/
def routeSplitsWrong : ChangeSpec := { name := "routeSplits", fn := fun _ => fun
  | [d1, d2] => { results := [.lit (.bool false)], args := [d1, d2] }
  | _ => none }
def RouteSplitsWrongFalsely : Prop := routeSplitsRow.holds Try.pinned (OpenSpec.ofChange routeSplitsWrong)

/-- 'flywheellaw07.RingTells': WHATEVER THE INPUT: true; the input reads as it did. -/
def ringTellsSpec : ChangeSpec := { name := "ringTells", fn := fun _ => fun
  | [d1, d2, d3, d4] => { results := [.lit (.bool true)], args := [d1, d2, d3, d4] }
  | _ => none }
def ringTellsRow : OpenClaim := { program := "ytldhbgefpfmkmaa", sum := "e555113ecea03709fff6cea53125ee04559fda4e94aed02421c549883ba1368f", func := "flywheel/flywheellaw07.RingTells", spec := "ringTells", unfollowed := true, recurses := true, apart := false }
def RingTellsSaid : Prop := ringTellsRow.holds Try.pinned (OpenSpec.ofChange ringTellsSpec)

/-- ITS FALSE NEIGHBOUR: 'it returns false'. Refute it at one input. -/
def ringTellsWrong : ChangeSpec := { name := "ringTells", fn := fun _ => fun
  | [d1, d2, d3, d4] => { results := [.lit (.bool false)], args := [d1, d2, d3, d4] }
  | _ => none }
def RingTellsWrongFalsely : Prop := ringTellsRow.holds Try.pinned (OpenSpec.ofChange ringTellsWrong)

/-- 'flywheellaw17.NodePlays': WHATEVER THE INPUT: true; the input reads as it did. -/
def nodePlaysSpec : ChangeSpec := { name := "nodePlays", fn := fun _ => fun
  | [d1, d2] => { results := [.lit (.bool true)], args := [d1, d2] }
  | _ => none }
def nodePlaysRow : OpenClaim := { program := "ytldhbgefpfmkmaa", sum := "e555113ecea03709fff6cea53125ee04559fda4e94aed02421c549883ba1368f", func := "flywheel/flywheellaw17.NodePlays", spec := "nodePlays", inPlace := ["slices.overlaps[flywheel/api.Sample]"], unfollowed := true, recurses := true, apart := false }
def NodePlaysSaid : Prop := nodePlaysRow.holds Try.pinned (OpenSpec.ofChange nodePlaysSpec)

/-- ITS FALSE NEIGHBOUR: 'it returns false'. Refute it at one input. -/
def nodePlaysWrong : ChangeSpec := { name := "nodePlays", fn := fun _ => fun
  | [d1, d2] => { results := [.lit (.bool false)], args := [d1, d2] }
  | _ => none }
def NodePlaysWrongFalsely : Prop := nodePlaysRow.holds Try.pinned (OpenSpec.ofChange nodePlaysWrong)

/-- 'flywheellaw17.NodeFreezes': WHATEVER THE INPUT: true; the input reads as it did. -/
def nodeFreezesSpec : ChangeSpec := { name := "nodeFreezes", fn := fun _ => fun
  | [d1, d2, d3] => { results := [.lit (.bool true)], args := [d1, d2, d3] }
  | _ => none }
def nodeFreezesRow : OpenClaim := { program := "ytldhbgefpfmkmaa", sum := "e555113ecea03709fff6cea53125ee04559fda4e94aed02421c549883ba1368f", func := "flywheel/flywheellaw17.NodeFreezes", spec := "nodeFreezes", inPlace := ["slices.overlaps[flywheel/api.Sample]"], unfollowed := true, recurses := true, apart := false }
def NodeFreezesSaid : Prop := nodeFreezesRow.holds Try.pinned (OpenSpec.ofChange nodeFreezesSpec)

/-- ITS FALSE NEIGHBOUR: 'it returns false'. Refute it at one input. -/
def nodeFreezesWrong : ChangeSpec := { name := "nodeFreezes", fn := fun _ => fun
  | [d1, d2, d3] => { results := [.lit (.bool false)], args := [d1, d2, d3] }
  | _ => none }
def NodeFreezesWrongFalsely : Prop := nodeFreezesRow.holds Try.pinned (OpenSpec.ofChange nodeFreezesWrong)

/-- 'flywheellaw17.NodeNone': WHATEVER THE INPUT: true; the input reads as it did. -/
def nodeNoneSpec : ChangeSpec := { name := "nodeNone", fn := fun _ => fun
  | [d] => { results := [.lit (.bool true)], args := [d] }
  | _ => none }
def nodeNoneRow : OpenClaim := { program := "ytldhbgefpfmkmaa", sum := "e555113ecea03709fff6cea53125ee04559fda4e94aed02421c549883ba1368f", func := "flywheel/flywheellaw17.NodeNone", spec := "nodeNone", inPlace := ["slices.overlaps[flywheel/api.Sample]"], unfollowed := true, recurses := true, apart := false }
def NodeNoneSaid : Prop := nodeNoneRow.holds Try.pinned (OpenSpec.ofChange nodeNoneSpec)

/-- ITS FALSE NEIGHBOUR: 'it returns false'. Refute it at one input. -/
def nodeNoneWrong : ChangeSpec := { name := "nodeNone", fn := fun _ => fun
  | [d] => { results := [.lit (.bool false)], args := [d] }
  | _ => none }
def NodeNoneWrongFalsely : Prop := nodeNoneRow.holds Try.pinned (OpenSpec.ofChange nodeNoneWrong)

/-- 'flywheellaw27.SchedRuns': WHATEVER THE INPUT: true; the input reads as it did. -/
def schedRunsSpec : ChangeSpec := { name := "schedRuns", fn := fun _ => fun
  | [d1, d2] => { results := [.lit (.bool true)], args := [d1, d2] }
  | _ => none }
def schedRunsRow : OpenClaim := { program := "ytldhbgefpfmkmaa", sum := "e555113ecea03709fff6cea53125ee04559fda4e94aed02421c549883ba1368f", func := "flywheel/flywheellaw27.SchedRuns", spec := "schedRuns", unfollowed := true, recurses := true, apart := false }
def SchedRunsSaid : Prop := schedRunsRow.holds Try.pinned (OpenSpec.ofChange schedRunsSpec)

/-- ITS FALSE NEIGHBOUR: 'it returns false'. Refute it at one input. -/
def schedRunsWrong : ChangeSpec := { name := "schedRuns", fn := fun _ => fun
  | [d1, d2] => { results := [.lit (.bool false)], args := [d1, d2] }
  | _ => none }
def SchedRunsWrongFalsely : Prop := schedRunsRow.holds Try.pinned (OpenSpec.ofChange schedRunsWrong)

/-- 'flywheellaw27.SchedNext': WHATEVER THE INPUT: true; the input reads as it did. -/
def schedNextSpec : ChangeSpec := { name := "schedNext", fn := fun _ => fun
  | [d1, d2, d3] => { results := [.lit (.bool true)], args := [d1, d2, d3] }
  | _ => none }
def schedNextRow : OpenClaim := { program := "ytldhbgefpfmkmaa", sum := "e555113ecea03709fff6cea53125ee04559fda4e94aed02421c549883ba1368f", func := "flywheel/flywheellaw27.SchedNext", spec := "schedNext", unfollowed := true, recurses := true, apart := false }
def SchedNextSaid : Prop := schedNextRow.holds Try.pinned (OpenSpec.ofChange schedNextSpec)

/-- ITS FALSE NEIGHBOUR: 'it returns false'. Refute it at one input. -/
def schedNextWrong : ChangeSpec := { name := "schedNext", fn := fun _ => fun
  | [d1, d2, d3] => { results := [.lit (.bool false)], args := [d1, d2, d3] }
  | _ => none }
def SchedNextWrongFalsely : Prop := schedNextRow.holds Try.pinned (OpenSpec.ofChange schedNextWrong)

/-- 'flywheellaw27.SchedParts': WHATEVER THE INPUT: true; the input reads as it did. -/
def schedPartsSpec : ChangeSpec := { name := "schedParts", fn := fun _ => fun
  | [d1, d2, d3] => { results := [.lit (.bool true)], args := [d1, d2, d3] }
  | _ => none }
def schedPartsRow : OpenClaim := { program := "ytldhbgefpfmkmaa", sum := "e555113ecea03709fff6cea53125ee04559fda4e94aed02421c549883ba1368f", func := "flywheel/flywheellaw27.SchedParts", spec := "schedParts", unfollowed := true, recurses := true, apart := false }
def SchedPartsSaid : Prop := schedPartsRow.holds Try.pinned (OpenSpec.ofChange schedPartsSpec)

/-- ITS FALSE NEIGHBOUR: 'it returns false'. Refute it at one input. -/
def schedPartsWrong : ChangeSpec := { name := "schedParts", fn := fun _ => fun
  | [d1, d2, d3] => { results := [.lit (.bool false)], args := [d1, d2, d3] }
  | _ => none }
def SchedPartsWrongFalsely : Prop := schedPartsRow.holds Try.pinned (OpenSpec.ofChange schedPartsWrong)

/-- 'flywheellaw27.SchedWatches': WHATEVER THE INPUT: true; the input reads as it did. -/
def schedWatchesSpec : ChangeSpec := { name := "schedWatches", fn := fun _ => fun
  | [d1, d2, d3] => { results := [.lit (.bool true)], args := [d1, d2, d3] }
  | _ => none }
def schedWatchesRow : OpenClaim := { program := "ytldhbgefpfmkmaa", sum := "e555113ecea03709fff6cea53125ee04559fda4e94aed02421c549883ba1368f", func := "flywheel/flywheellaw27.SchedWatches", spec := "schedWatches", unfollowed := true, recurses := true, apart := false }
def SchedWatchesSaid : Prop := schedWatchesRow.holds Try.pinned (OpenSpec.ofChange schedWatchesSpec)

/-- ITS FALSE NEIGHBOUR: 'it returns false'. Refute it at one input. -/
def schedWatchesWrong : ChangeSpec := { name := "schedWatches", fn := fun _ => fun
  | [d1, d2, d3] => { results := [.lit (.bool false)], args := [d1, d2, d3] }
  | _ => none }
def SchedWatchesWrongFalsely : Prop := schedWatchesRow.holds Try.pinned (OpenSpec.ofChange schedWatchesWrong)

/-- 'flywheellaw55.LoopKeeps': WHATEVER THE INPUT: true; the input reads as it did. -/
def loopKeepsSpec : ChangeSpec := { name := "loopKeeps", fn := fun _ => fun
  | [d1, d2, d3] => { results := [.lit (.bool true)], args := [d1, d2, d3] }
  | _ => none }
def loopKeepsRow : OpenClaim := { program := "ytldhbgefpfmkmaa", sum := "e555113ecea03709fff6cea53125ee04559fda4e94aed02421c549883ba1368f", func := "flywheel/flywheellaw55.LoopKeeps", spec := "loopKeeps", inPlace := ["slices.overlaps[flywheel/api.Sample]"], unfollowed := true, recurses := true, apart := false }
def LoopKeepsSaid : Prop := loopKeepsRow.holds Try.pinned (OpenSpec.ofChange loopKeepsSpec)

/-- ITS FALSE NEIGHBOUR: 'it returns false'. Refute it at one input. -/
def loopKeepsWrong : ChangeSpec := { name := "loopKeeps", fn := fun _ => fun
  | [d1, d2, d3] => { results := [.lit (.bool false)], args := [d1, d2, d3] }
  | _ => none }
def LoopKeepsWrongFalsely : Prop := loopKeepsRow.holds Try.pinned (OpenSpec.ofChange loopKeepsWrong)

/-- 'flywheellaw55.LoopTotals': WHATEVER THE INPUT: true; the input reads as it did. -/
def loopTotalsSpec : ChangeSpec := { name := "loopTotals", fn := fun _ => fun
  | [d] => { results := [.lit (.bool true)], args := [d] }
  | _ => none }
def loopTotalsRow : OpenClaim := { program := "ytldhbgefpfmkmaa", sum := "e555113ecea03709fff6cea53125ee04559fda4e94aed02421c549883ba1368f", func := "flywheel/flywheellaw55.LoopTotals", spec := "loopTotals", inPlace := ["slices.overlaps[flywheel/api.Sample]"], unfollowed := true, recurses := true, apart := false }
def LoopTotalsSaid : Prop := loopTotalsRow.holds Try.pinned (OpenSpec.ofChange loopTotalsSpec)

/-- ITS FALSE NEIGHBOUR: 'it returns false'. Refute it at one input. -/
def loopTotalsWrong : ChangeSpec := { name := "loopTotals", fn := fun _ => fun
  | [d] => { results := [.lit (.bool false)], args := [d] }
  | _ => none }
def LoopTotalsWrongFalsely : Prop := loopTotalsRow.holds Try.pinned (OpenSpec.ofChange loopTotalsWrong)

/- THE SECOND FORM. 'bulk': how many values and letters a reading holds, each counted each time it is reached (what is shared counts as often as it is met; a slice's spare places count too). A statement '..UptoSaid' is the law's where the arguments, and the package variables that the reading takes, are together of bulk at most 1048576: NARROWER than '..Said'. Prove '..Said' where nothing that the law and all that it calls make is longer than what came in: it says more and counts as full. Else prove '..UptoSaid'. A law counts once. -/
mutual
def uptoBulk {H : Type} : DataW H → Nat
  | .lit (.string bytes) => bytes.length + 1
  | .lit _ => 1
  | .nil => 1
  | .ptr d => uptoBulk d + 1
  | .slice elems spare => uptoBulkAll elems + uptoBulkAll spare + 1
  | .agg parts => uptoBulkAll parts + 1
  | .iface _ d => uptoBulk d + 1
  | .map entries => uptoBulkEntries entries + 1
  | .held _ => 1
def uptoBulkAll {H : Type} : List (DataW H) → Nat
  | [] => 0
  | d :: r => uptoBulk d + uptoBulkAll r
def uptoBulkEntries {H : Type} : List (Lit × DataW H) → Nat
  | [] => 0
  | x :: r => uptoBulkEntry x + uptoBulkEntries r
def uptoBulkEntry {H : Type} : Lit × DataW H → Nat
  | (.string bytes, d) => bytes.length + uptoBulk d + 1
  | (_, d) => uptoBulk d + 1
 end
def uptoSmall : (H : Type) → List (DataW H) → Bool := fun _ ds => decide (uptoBulkAll ds ≤ 1048576)
def OpenSpec.upto (s : _root_.Go.ChangeSpec) : _root_.Go.OpenSpec := { _root_.Go.OpenSpec.ofChange s with cond := some uptoSmall }

/-- 'flywheellaw05.RouteSplits', WHERE WHAT IT READS IS OF BULK AT MOST 1048576: true; the input reads as it did. -/
def routeSplitsUptoRow : OpenClaim := { program := "ytldhbgefpfmkmaa", sum := "e555113ecea03709fff6cea53125ee04559fda4e94aed02421c549883ba1368f", func := "flywheel/flywheellaw05.RouteSplits", spec := "routeSplits", unfollowed := true, recurses := true, apart := false, narrowed := true }
def RouteSplitsUptoSaid : Prop := routeSplitsUptoRow.holds Try.pinned (OpenSpec.upto routeSplitsSpec)

/-- 'flywheellaw07.RingTells', WHERE WHAT IT READS IS OF BULK AT MOST 1048576: true; the input reads as it did. -/
def ringTellsUptoRow : OpenClaim := { program := "ytldhbgefpfmkmaa", sum := "e555113ecea03709fff6cea53125ee04559fda4e94aed02421c549883ba1368f", func := "flywheel/flywheellaw07.RingTells", spec := "ringTells", unfollowed := true, recurses := true, apart := false, narrowed := true }
def RingTellsUptoSaid : Prop := ringTellsUptoRow.holds Try.pinned (OpenSpec.upto ringTellsSpec)

/-- 'flywheellaw17.NodePlays', WHERE WHAT IT READS IS OF BULK AT MOST 1048576: true; the input reads as it did. -/
def nodePlaysUptoRow : OpenClaim := { program := "ytldhbgefpfmkmaa", sum := "e555113ecea03709fff6cea53125ee04559fda4e94aed02421c549883ba1368f", func := "flywheel/flywheellaw17.NodePlays", spec := "nodePlays", inPlace := ["slices.overlaps[flywheel/api.Sample]"], unfollowed := true, recurses := true, apart := false, narrowed := true }
def NodePlaysUptoSaid : Prop := nodePlaysUptoRow.holds Try.pinned (OpenSpec.upto nodePlaysSpec)

/-- 'flywheellaw17.NodeFreezes', WHERE WHAT IT READS IS OF BULK AT MOST 1048576: true; the input reads as it did. -/
def nodeFreezesUptoRow : OpenClaim := { program := "ytldhbgefpfmkmaa", sum := "e555113ecea03709fff6cea53125ee04559fda4e94aed02421c549883ba1368f", func := "flywheel/flywheellaw17.NodeFreezes", spec := "nodeFreezes", inPlace := ["slices.overlaps[flywheel/api.Sample]"], unfollowed := true, recurses := true, apart := false, narrowed := true }
def NodeFreezesUptoSaid : Prop := nodeFreezesUptoRow.holds Try.pinned (OpenSpec.upto nodeFreezesSpec)

/-- 'flywheellaw17.NodeNone', WHERE WHAT IT READS IS OF BULK AT MOST 1048576: true; the input reads as it did. -/
def nodeNoneUptoRow : OpenClaim := { program := "ytldhbgefpfmkmaa", sum := "e555113ecea03709fff6cea53125ee04559fda4e94aed02421c549883ba1368f", func := "flywheel/flywheellaw17.NodeNone", spec := "nodeNone", inPlace := ["slices.overlaps[flywheel/api.Sample]"], unfollowed := true, recurses := true, apart := false, narrowed := true }
def NodeNoneUptoSaid : Prop := nodeNoneUptoRow.holds Try.pinned (OpenSpec.upto nodeNoneSpec)

/-- 'flywheellaw27.SchedRuns', WHERE WHAT IT READS IS OF BULK AT MOST 1048576: true; the input reads as it did. -/
def schedRunsUptoRow : OpenClaim := { program := "ytldhbgefpfmkmaa", sum := "e555113ecea03709fff6cea53125ee04559fda4e94aed02421c549883ba1368f", func := "flywheel/flywheellaw27.SchedRuns", spec := "schedRuns", unfollowed := true, recurses := true, apart := false, narrowed := true }
def SchedRunsUptoSaid : Prop := schedRunsUptoRow.holds Try.pinned (OpenSpec.upto schedRunsSpec)

/-- 'flywheellaw27.SchedNext', WHERE WHAT IT READS IS OF BULK AT MOST 1048576: true; the input reads as it did. -/
def schedNextUptoRow : OpenClaim := { program := "ytldhbgefpfmkmaa", sum := "e555113ecea03709fff6cea53125ee04559fda4e94aed02421c549883ba1368f", func := "flywheel/flywheellaw27.SchedNext", spec := "schedNext", unfollowed := true, recurses := true, apart := false, narrowed := true }
def SchedNextUptoSaid : Prop := schedNextUptoRow.holds Try.pinned (OpenSpec.upto schedNextSpec)

/-- 'flywheellaw27.SchedParts', WHERE WHAT IT READS IS OF BULK AT MOST 1048576: true; the input reads as it did. -/
def schedPartsUptoRow : OpenClaim := { program := "ytldhbgefpfmkmaa", sum := "e555113ecea03709fff6cea53125ee04559fda4e94aed02421c549883ba1368f", func := "flywheel/flywheellaw27.SchedParts", spec := "schedParts", unfollowed := true, recurses := true, apart := false, narrowed := true }
def SchedPartsUptoSaid : Prop := schedPartsUptoRow.holds Try.pinned (OpenSpec.upto schedPartsSpec)

/-- 'flywheellaw27.SchedWatches', WHERE WHAT IT READS IS OF BULK AT MOST 1048576: true; the input reads as it did. -/
def schedWatchesUptoRow : OpenClaim := { program := "ytldhbgefpfmkmaa", sum := "e555113ecea03709fff6cea53125ee04559fda4e94aed02421c549883ba1368f", func := "flywheel/flywheellaw27.SchedWatches", spec := "schedWatches", unfollowed := true, recurses := true, apart := false, narrowed := true }
def SchedWatchesUptoSaid : Prop := schedWatchesUptoRow.holds Try.pinned (OpenSpec.upto schedWatchesSpec)

/-- 'flywheellaw55.LoopKeeps', WHERE WHAT IT READS IS OF BULK AT MOST 1048576: true; the input reads as it did. -/
def loopKeepsUptoRow : OpenClaim := { program := "ytldhbgefpfmkmaa", sum := "e555113ecea03709fff6cea53125ee04559fda4e94aed02421c549883ba1368f", func := "flywheel/flywheellaw55.LoopKeeps", spec := "loopKeeps", inPlace := ["slices.overlaps[flywheel/api.Sample]"], unfollowed := true, recurses := true, apart := false, narrowed := true }
def LoopKeepsUptoSaid : Prop := loopKeepsUptoRow.holds Try.pinned (OpenSpec.upto loopKeepsSpec)

/-- 'flywheellaw55.LoopTotals', WHERE WHAT IT READS IS OF BULK AT MOST 1048576: true; the input reads as it did. -/
def loopTotalsUptoRow : OpenClaim := { program := "ytldhbgefpfmkmaa", sum := "e555113ecea03709fff6cea53125ee04559fda4e94aed02421c549883ba1368f", func := "flywheel/flywheellaw55.LoopTotals", spec := "loopTotals", inPlace := ["slices.overlaps[flywheel/api.Sample]"], unfollowed := true, recurses := true, apart := false, narrowed := true }
def LoopTotalsUptoSaid : Prop := loopTotalsUptoRow.holds Try.pinned (OpenSpec.upto loopTotalsSpec)

end Rows
end Go.Proofs.Ytldhbgefpfmkmaa
