/-
  No cell of these rows narrows 'for every input' (looked for: loops, veiled, ifaces, maps, wideKeys, modest, calm, conditions, laid).
  DERIVED. THE GIVEN ROWS OF THIS SEAT. 12 by the template 'for every input the law returns true; each argument reads behind the call as it read before'; 0 by the template 'total and deterministic' (their statements: YtcanbagnehdbiaaTotals.lean).
  GIVEN WITH THE SEED: the statements are not yours to turn. If you find one false, say at which input.
  Laid BY PROGRAM, IN A SANDBOX (cutbox-rows.mjs): the forced cells as the released guide's own fill.sh prints them over the translation d721d8a82fd87f95… (all of the seat's roots in one cut). By AI agents, Wed Nov 11 2026. No macro, syntax, notation, axiom, sorry.
-/
import Derived.Test.YtcanbagnehdbiaaChecked
import GoSem.Claim
import GoSem.ClaimJoined
import GoSem.ClaimMapViews
import Derived.JoinedTies
import Derived.KernelRfl
namespace Go.Proofs.Ytcanbagnehdbiaa
/- THE CELL 'sum', in the pinned program and in every row, IS THE sha256 OF THE DUMP (.gsa) THAT YtcanbagnehdbiaaProg.lean LOADS. Nothing in Lean hashes anything: it is a label: what it is worth is what the hold of that sum in a sandbox is worth. -/
noncomputable def Try.pinned : Pinned := { name := "ytcanbagnehdbiaa", sum := "d721d8a82fd87f956b8bb7eb0e4517d7092abd61ac3746bf1f5dd23e72b71590", checked := Try.checked }
namespace Rows
def none {H : Type} : Left H := { results := [], args := [] }

/-- 'flywheellaw48.AuditChecks': WHATEVER THE INPUT: true; the input reads as it did. -/
def auditChecksSpec : ChangeSpec := { name := "auditChecks", fn := fun _ => fun
  | [d1, d2, d3] => { results := [.lit (.bool true)], args := [d1, d2, d3] }
  | _ => none }
def auditChecksRow : OpenClaim := { program := "ytcanbagnehdbiaa", sum := "d721d8a82fd87f956b8bb7eb0e4517d7092abd61ac3746bf1f5dd23e72b71590", func := "flywheel/flywheellaw48.AuditChecks", spec := "auditChecks", unfollowed := true, recurses := true, apart := false }
def AuditChecksSaid : Prop := auditChecksRow.holds Try.pinned (OpenSpec.ofChange auditChecksSpec)

/-- ITS FALSE NEIGHBOUR: 'it returns false'. Refute it at one input. -/
def auditChecksWrong : ChangeSpec := { name := "auditChecks", fn := fun _ => fun
  | [d1, d2, d3] => { results := [.lit (.bool false)], args := [d1, d2, d3] }
  | _ => none }
def AuditChecksWrongFalsely : Prop := auditChecksRow.holds Try.pinned (OpenSpec.ofChange auditChecksWrong)

/-- 'flywheellaw48.AuditFine': WHATEVER THE INPUT: true; the input reads as it did. -/
def auditFineSpec : ChangeSpec := { name := "auditFine", fn := fun _ => fun
  | [d1, d2, d3, d4] => { results := [.lit (.bool true)], args := [d1, d2, d3, d4] }
  | _ => none }
def auditFineRow : OpenClaim := { program := "ytcanbagnehdbiaa", sum := "d721d8a82fd87f956b8bb7eb0e4517d7092abd61ac3746bf1f5dd23e72b71590", func := "flywheel/flywheellaw48.AuditFine", spec := "auditFine", inPlace := ["slices.overlaps[flywheel/api.Sample]"], unfollowed := true, recurses := true, apart := false }
def AuditFineSaid : Prop := auditFineRow.holds Try.pinned (OpenSpec.ofChange auditFineSpec)

/-- ITS FALSE NEIGHBOUR: 'it returns false'. Refute it at one input. -/
def auditFineWrong : ChangeSpec := { name := "auditFine", fn := fun _ => fun
  | [d1, d2, d3, d4] => { results := [.lit (.bool false)], args := [d1, d2, d3, d4] }
  | _ => none }
def AuditFineWrongFalsely : Prop := auditFineRow.holds Try.pinned (OpenSpec.ofChange auditFineWrong)

/-- 'flywheellaw51.BudgetShares': WHATEVER THE INPUT: true; the input reads as it did. -/
def budgetSharesSpec : ChangeSpec := { name := "budgetShares", fn := fun _ => fun
  | [d1, d2] => { results := [.lit (.bool true)], args := [d1, d2] }
  | _ => none }
def budgetSharesRow : OpenClaim := { program := "ytcanbagnehdbiaa", sum := "d721d8a82fd87f956b8bb7eb0e4517d7092abd61ac3746bf1f5dd23e72b71590", func := "flywheel/flywheellaw51.BudgetShares", spec := "budgetShares", unfollowed := true, recurses := true, apart := false }
def BudgetSharesSaid : Prop := budgetSharesRow.holds Try.pinned (OpenSpec.ofChange budgetSharesSpec)

/-- ITS FALSE NEIGHBOUR: 'it returns false'. Refute it at one input. -/
def budgetSharesWrong : ChangeSpec := { name := "budgetShares", fn := fun _ => fun
  | [d1, d2] => { results := [.lit (.bool false)], args := [d1, d2] }
  | _ => none }
def BudgetSharesWrongFalsely : Prop := budgetSharesRow.holds Try.pinned (OpenSpec.ofChange budgetSharesWrong)

/-- 'flywheellaw51.BudgetFair': WHATEVER THE INPUT: true; the input reads as it did. -/
def budgetFairSpec : ChangeSpec := { name := "budgetFair", fn := fun _ => fun
  | [d1, d2] => { results := [.lit (.bool true)], args := [d1, d2] }
  | _ => none }
def budgetFairRow : OpenClaim := { program := "ytcanbagnehdbiaa", sum := "d721d8a82fd87f956b8bb7eb0e4517d7092abd61ac3746bf1f5dd23e72b71590", func := "flywheel/flywheellaw51.BudgetFair", spec := "budgetFair", unfollowed := true, recurses := true, apart := false }
def BudgetFairSaid : Prop := budgetFairRow.holds Try.pinned (OpenSpec.ofChange budgetFairSpec)

/-- ITS FALSE NEIGHBOUR: 'it returns false'. Refute it at one input. -/
def budgetFairWrong : ChangeSpec := { name := "budgetFair", fn := fun _ => fun
  | [d1, d2] => { results := [.lit (.bool false)], args := [d1, d2] }
  | _ => none }
def BudgetFairWrongFalsely : Prop := budgetFairRow.holds Try.pinned (OpenSpec.ofChange budgetFairWrong)

/-- 'flywheellaw51.BudgetFits': WHATEVER THE INPUT: true; the input reads as it did. -/
def budgetFitsSpec : ChangeSpec := { name := "budgetFits", fn := fun _ => fun
  | [d1, d2, d3] => { results := [.lit (.bool true)], args := [d1, d2, d3] }
  | _ => none }
def budgetFitsRow : OpenClaim := { program := "ytcanbagnehdbiaa", sum := "d721d8a82fd87f956b8bb7eb0e4517d7092abd61ac3746bf1f5dd23e72b71590", func := "flywheel/flywheellaw51.BudgetFits", spec := "budgetFits", unfollowed := true, recurses := true, apart := false }
def BudgetFitsSaid : Prop := budgetFitsRow.holds Try.pinned (OpenSpec.ofChange budgetFitsSpec)

/-- ITS FALSE NEIGHBOUR: 'it returns false'. Refute it at one input. -/
def budgetFitsWrong : ChangeSpec := { name := "budgetFits", fn := fun _ => fun
  | [d1, d2, d3] => { results := [.lit (.bool false)], args := [d1, d2, d3] }
  | _ => none }
def BudgetFitsWrongFalsely : Prop := budgetFitsRow.holds Try.pinned (OpenSpec.ofChange budgetFitsWrong)

/-- 'flywheellaw07.RingTells': WHATEVER THE INPUT: true; the input reads as it did. -/
def ringTellsSpec : ChangeSpec := { name := "ringTells", fn := fun _ => fun
  | [d1, d2, d3, d4] => { results := [.lit (.bool true)], args := [d1, d2, d3, d4] }
  | _ => none }
def ringTellsRow : OpenClaim := { program := "ytcanbagnehdbiaa", sum := "d721d8a82fd87f956b8bb7eb0e4517d7092abd61ac3746bf1f5dd23e72b71590", func := "flywheel/flywheellaw07.RingTells", spec := "ringTells", unfollowed := true, recurses := true, apart := false }
def RingTellsSaid : Prop := ringTellsRow.holds Try.pinned (OpenSpec.ofChange ringTellsSpec)

/-- ITS FALSE NEIGHBOUR: 'it returns false'. Refute it at one input. -/
def ringTellsWrong : ChangeSpec := { name := "ringTells", fn := fun _ => fun
  | [d1, d2, d3, d4] => { results := [.lit (.bool false)], args := [d1, d2, d3, d4] }
  | _ => none }
def RingTellsWrongFalsely : Prop := ringTellsRow.holds Try.pinned (OpenSpec.ofChange ringTellsWrong)

/-- 'flywheellaw08.SeriesPlays': WHATEVER THE INPUT: true; the input reads as it did. -/
def seriesPlaysSpec : ChangeSpec := { name := "seriesPlays", fn := fun _ => fun
  | [d1, d2] => { results := [.lit (.bool true)], args := [d1, d2] }
  | _ => none }
def seriesPlaysRow : OpenClaim := { program := "ytcanbagnehdbiaa", sum := "d721d8a82fd87f956b8bb7eb0e4517d7092abd61ac3746bf1f5dd23e72b71590", func := "flywheel/flywheellaw08.SeriesPlays", spec := "seriesPlays", inPlace := ["slices.overlaps[flywheel/api.Sample]"], unfollowed := true, recurses := true, apart := false }
def SeriesPlaysSaid : Prop := seriesPlaysRow.holds Try.pinned (OpenSpec.ofChange seriesPlaysSpec)

/-- ITS FALSE NEIGHBOUR: 'it returns false'. Refute it at one input. -/
def seriesPlaysWrong : ChangeSpec := { name := "seriesPlays", fn := fun _ => fun
  | [d1, d2] => { results := [.lit (.bool false)], args := [d1, d2] }
  | _ => none }
def SeriesPlaysWrongFalsely : Prop := seriesPlaysRow.holds Try.pinned (OpenSpec.ofChange seriesPlaysWrong)

/-- 'flywheellaw08.SeriesAnyOrder': WHATEVER THE INPUT: true; the input reads as it did. -/
def seriesAnyOrderSpec : ChangeSpec := { name := "seriesAnyOrder", fn := fun _ => fun
  | [d1, d2, d3] => { results := [.lit (.bool true)], args := [d1, d2, d3] }
  | _ => none }
def seriesAnyOrderRow : OpenClaim := { program := "ytcanbagnehdbiaa", sum := "d721d8a82fd87f956b8bb7eb0e4517d7092abd61ac3746bf1f5dd23e72b71590", func := "flywheel/flywheellaw08.SeriesAnyOrder", spec := "seriesAnyOrder", inPlace := ["slices.overlaps[flywheel/api.Sample]"], unfollowed := true, recurses := true, apart := false }
def SeriesAnyOrderSaid : Prop := seriesAnyOrderRow.holds Try.pinned (OpenSpec.ofChange seriesAnyOrderSpec)

/-- ITS FALSE NEIGHBOUR: 'it returns false'. Refute it at one input. -/
def seriesAnyOrderWrong : ChangeSpec := { name := "seriesAnyOrder", fn := fun _ => fun
  | [d1, d2, d3] => { results := [.lit (.bool false)], args := [d1, d2, d3] }
  | _ => none }
def SeriesAnyOrderWrongFalsely : Prop := seriesAnyOrderRow.holds Try.pinned (OpenSpec.ofChange seriesAnyOrderWrong)

/-- 'flywheellaw08.SeriesClones': WHATEVER THE INPUT: true; the input reads as it did. -/
def seriesClonesSpec : ChangeSpec := { name := "seriesClones", fn := fun _ => fun
  | [d1, d2, d3] => { results := [.lit (.bool true)], args := [d1, d2, d3] }
  | _ => none }
def seriesClonesRow : OpenClaim := { program := "ytcanbagnehdbiaa", sum := "d721d8a82fd87f956b8bb7eb0e4517d7092abd61ac3746bf1f5dd23e72b71590", func := "flywheel/flywheellaw08.SeriesClones", spec := "seriesClones", inPlace := ["slices.overlaps[flywheel/api.Sample]"], unfollowed := true, recurses := true, apart := false }
def SeriesClonesSaid : Prop := seriesClonesRow.holds Try.pinned (OpenSpec.ofChange seriesClonesSpec)

/-- ITS FALSE NEIGHBOUR: 'it returns false'. Refute it at one input. -/
def seriesClonesWrong : ChangeSpec := { name := "seriesClones", fn := fun _ => fun
  | [d1, d2, d3] => { results := [.lit (.bool false)], args := [d1, d2, d3] }
  | _ => none }
def SeriesClonesWrongFalsely : Prop := seriesClonesRow.holds Try.pinned (OpenSpec.ofChange seriesClonesWrong)

/-- 'flywheellaw52.TrendTells': WHATEVER THE INPUT: true; the input reads as it did. -/
def trendTellsSpec : ChangeSpec := { name := "trendTells", fn := fun _ => fun
  | [d1, d2, d3] => { results := [.lit (.bool true)], args := [d1, d2, d3] }
  | _ => none }
def trendTellsRow : OpenClaim := { program := "ytcanbagnehdbiaa", sum := "d721d8a82fd87f956b8bb7eb0e4517d7092abd61ac3746bf1f5dd23e72b71590", func := "flywheel/flywheellaw52.TrendTells", spec := "trendTells", inPlace := ["slices.overlaps[flywheel/api.Sample]"], unfollowed := true, recurses := true, apart := false }
def TrendTellsSaid : Prop := trendTellsRow.holds Try.pinned (OpenSpec.ofChange trendTellsSpec)

/-- ITS FALSE NEIGHBOUR: 'it returns false'. Refute it at one input. -/
def trendTellsWrong : ChangeSpec := { name := "trendTells", fn := fun _ => fun
  | [d1, d2, d3] => { results := [.lit (.bool false)], args := [d1, d2, d3] }
  | _ => none }
def TrendTellsWrongFalsely : Prop := trendTellsRow.holds Try.pinned (OpenSpec.ofChange trendTellsWrong)

/-- 'flywheellaw52.TrendAhead': WHATEVER THE INPUT: true; the input reads as it did. -/
def trendAheadSpec : ChangeSpec := { name := "trendAhead", fn := fun _ => fun
  | [d1, d2] => { results := [.lit (.bool true)], args := [d1, d2] }
  | _ => none }
def trendAheadRow : OpenClaim := { program := "ytcanbagnehdbiaa", sum := "d721d8a82fd87f956b8bb7eb0e4517d7092abd61ac3746bf1f5dd23e72b71590", func := "flywheel/flywheellaw52.TrendAhead", spec := "trendAhead", inPlace := ["slices.overlaps[flywheel/api.Sample]"], unfollowed := true, recurses := true, apart := false }
def TrendAheadSaid : Prop := trendAheadRow.holds Try.pinned (OpenSpec.ofChange trendAheadSpec)

/-- ITS FALSE NEIGHBOUR: 'it returns false'. Refute it at one input. -/
def trendAheadWrong : ChangeSpec := { name := "trendAhead", fn := fun _ => fun
  | [d1, d2] => { results := [.lit (.bool false)], args := [d1, d2] }
  | _ => none }
def TrendAheadWrongFalsely : Prop := trendAheadRow.holds Try.pinned (OpenSpec.ofChange trendAheadWrong)

/-- 'flywheellaw52.TrendFlat': WHATEVER THE INPUT: true; the input reads as it did. -/
def trendFlatSpec : ChangeSpec := { name := "trendFlat", fn := fun _ => fun
  | [d1, d2, d3] => { results := [.lit (.bool true)], args := [d1, d2, d3] }
  | _ => none }
def trendFlatRow : OpenClaim := { program := "ytcanbagnehdbiaa", sum := "d721d8a82fd87f956b8bb7eb0e4517d7092abd61ac3746bf1f5dd23e72b71590", func := "flywheel/flywheellaw52.TrendFlat", spec := "trendFlat", inPlace := ["slices.overlaps[flywheel/api.Sample]"], unfollowed := true, recurses := true, apart := false }
def TrendFlatSaid : Prop := trendFlatRow.holds Try.pinned (OpenSpec.ofChange trendFlatSpec)

/-- ITS FALSE NEIGHBOUR: 'it returns false'. Refute it at one input. -/
def trendFlatWrong : ChangeSpec := { name := "trendFlat", fn := fun _ => fun
  | [d1, d2, d3] => { results := [.lit (.bool false)], args := [d1, d2, d3] }
  | _ => none }
def TrendFlatWrongFalsely : Prop := trendFlatRow.holds Try.pinned (OpenSpec.ofChange trendFlatWrong)

/- THE SECOND FORM. 'bulk': how many values and letters a reading holds, each counted each time it is reached (what is shared counts as often as it is met; a slice's spare places count too). A statement '..UptoSaid' is the law's where the arguments, and the package variables that the reading takes, are together of bulk at most 1048576: NARROWER than '..Said'. Prove '..Said' where nothing that the law and all that it calls make is longer than what came in: it says more and counts as full. Else prove '..UptoSaid'. A law counts once. -/
mutual
def uptoBulk {H : Type} : DataW H → Nat
  | .lit (.string bytes) => bytes.length + 1
  | .lit _ => 1
  | .nil => 1
  | .ptr d => uptoBulk d + 1
  | .slice elems spare => uptoBulkAll elems + uptoBulkAll spare + 1
  | .agg parts => uptoBulkAll parts + 1
  | .iface _ d => uptoBulk d + 1
  | .map entries => uptoBulkEntries entries + 1
  | .held _ => 1
def uptoBulkAll {H : Type} : List (DataW H) → Nat
  | [] => 0
  | d :: r => uptoBulk d + uptoBulkAll r
def uptoBulkEntries {H : Type} : List (Lit × DataW H) → Nat
  | [] => 0
  | x :: r => uptoBulkEntry x + uptoBulkEntries r
def uptoBulkEntry {H : Type} : Lit × DataW H → Nat
  | (.string bytes, d) => bytes.length + uptoBulk d + 1
  | (_, d) => uptoBulk d + 1
 end
def uptoSmall : (H : Type) → List (DataW H) → Bool := fun _ ds => decide (uptoBulkAll ds ≤ 1048576)
def OpenSpec.upto (s : _root_.Go.ChangeSpec) : _root_.Go.OpenSpec := { _root_.Go.OpenSpec.ofChange s with cond := some uptoSmall }

/-- 'flywheellaw48.AuditChecks', WHERE WHAT IT READS IS OF BULK AT MOST 1048576: true; the input reads as it did. -/
def auditChecksUptoRow : OpenClaim := { program := "ytcanbagnehdbiaa", sum := "d721d8a82fd87f956b8bb7eb0e4517d7092abd61ac3746bf1f5dd23e72b71590", func := "flywheel/flywheellaw48.AuditChecks", spec := "auditChecks", unfollowed := true, recurses := true, apart := false, narrowed := true }
def AuditChecksUptoSaid : Prop := auditChecksUptoRow.holds Try.pinned (OpenSpec.upto auditChecksSpec)

/-- 'flywheellaw48.AuditFine', WHERE WHAT IT READS IS OF BULK AT MOST 1048576: true; the input reads as it did. -/
def auditFineUptoRow : OpenClaim := { program := "ytcanbagnehdbiaa", sum := "d721d8a82fd87f956b8bb7eb0e4517d7092abd61ac3746bf1f5dd23e72b71590", func := "flywheel/flywheellaw48.AuditFine", spec := "auditFine", inPlace := ["slices.overlaps[flywheel/api.Sample]"], unfollowed := true, recurses := true, apart := false, narrowed := true }
def AuditFineUptoSaid : Prop := auditFineUptoRow.holds Try.pinned (OpenSpec.upto auditFineSpec)

/-- 'flywheellaw51.BudgetShares', WHERE WHAT IT READS IS OF BULK AT MOST 1048576: true; the input reads as it did. -/
def budgetSharesUptoRow : OpenClaim := { program := "ytcanbagnehdbiaa", sum := "d721d8a82fd87f956b8bb7eb0e4517d7092abd61ac3746bf1f5dd23e72b71590", func := "flywheel/flywheellaw51.BudgetShares", spec := "budgetShares", unfollowed := true, recurses := true, apart := false, narrowed := true }
def BudgetSharesUptoSaid : Prop := budgetSharesUptoRow.holds Try.pinned (OpenSpec.upto budgetSharesSpec)

/-- 'flywheellaw51.BudgetFair', WHERE WHAT IT READS IS OF BULK AT MOST 1048576: true; the input reads as it did. -/
def budgetFairUptoRow : OpenClaim := { program := "ytcanbagnehdbiaa", sum := "d721d8a82fd87f956b8bb7eb0e4517d7092abd61ac3746bf1f5dd23e72b71590", func := "flywheel/flywheellaw51.BudgetFair", spec := "budgetFair", unfollowed := true, recurses := true, apart := false, narrowed := true }
def BudgetFairUptoSaid : Prop := budgetFairUptoRow.holds Try.pinned (OpenSpec.upto budgetFairSpec)

/-- 'flywheellaw51.BudgetFits', WHERE WHAT IT READS IS OF BULK AT MOST 1048576: true; the input reads as it did. -/
def budgetFitsUptoRow : OpenClaim := { program := "ytcanbagnehdbiaa", sum := "d721d8a82fd87f956b8bb7eb0e4517d7092abd61ac3746bf1f5dd23e72b71590", func := "flywheel/flywheellaw51.BudgetFits", spec := "budgetFits", unfollowed := true, recurses := true, apart := false, narrowed := true }
def BudgetFitsUptoSaid : Prop := budgetFitsUptoRow.holds Try.pinned (OpenSpec.upto budgetFitsSpec)

/-- 'flywheellaw07.RingTells', WHERE WHAT IT READS IS OF BULK AT MOST 1048576: true; the input reads as it did. -/
def ringTellsUptoRow : OpenClaim := { program := "ytcanbagnehdbiaa", sum := "d721d8a82fd87f956b8bb7eb0e4517d7092abd61ac3746bf1f5dd23e72b71590", func := "flywheel/flywheellaw07.RingTells", spec := "ringTells", unfollowed := true, recurses := true, apart := false, narrowed := true }
def RingTellsUptoSaid : Prop := ringTellsUptoRow.holds Try.pinned (OpenSpec.upto ringTellsSpec)

/-- 'flywheellaw08.SeriesPlays', WHERE WHAT IT READS IS OF BULK AT MOST 1048576: true; the input reads as it did. -/
def seriesPlaysUptoRow : OpenClaim := { program := "ytcanbagnehdbiaa", sum := "d721d8a82fd87f956b8bb7eb0e4517d7092abd61ac3746bf1f5dd23e72b71590", func := "flywheel/flywheellaw08.SeriesPlays", spec := "seriesPlays", inPlace := ["slices.overlaps[flywheel/api.Sample]"], unfollowed := true, recurses := true, apart := false, narrowed := true }
def SeriesPlaysUptoSaid : Prop := seriesPlaysUptoRow.holds Try.pinned (OpenSpec.upto seriesPlaysSpec)

/-- 'flywheellaw08.SeriesAnyOrder', WHERE WHAT IT READS IS OF BULK AT MOST 1048576: true; the input reads as it did. -/
def seriesAnyOrderUptoRow : OpenClaim := { program := "ytcanbagnehdbiaa", sum := "d721d8a82fd87f956b8bb7eb0e4517d7092abd61ac3746bf1f5dd23e72b71590", func := "flywheel/flywheellaw08.SeriesAnyOrder", spec := "seriesAnyOrder", inPlace := ["slices.overlaps[flywheel/api.Sample]"], unfollowed := true, recurses := true, apart := false, narrowed := true }
def SeriesAnyOrderUptoSaid : Prop := seriesAnyOrderUptoRow.holds Try.pinned (OpenSpec.upto seriesAnyOrderSpec)

/-- 'flywheellaw08.SeriesClones', WHERE WHAT IT READS IS OF BULK AT MOST 1048576: true; the input reads as it did. -/
def seriesClonesUptoRow : OpenClaim := { program := "ytcanbagnehdbiaa", sum := "d721d8a82fd87f956b8bb7eb0e4517d7092abd61ac3746bf1f5dd23e72b71590", func := "flywheel/flywheellaw08.SeriesClones", spec := "seriesClones", inPlace := ["slices.overlaps[flywheel/api.Sample]"], unfollowed := true, recurses := true, apart := false, narrowed := true }
def SeriesClonesUptoSaid : Prop := seriesClonesUptoRow.holds Try.pinned (OpenSpec.upto seriesClonesSpec)

/-- 'flywheellaw52.TrendTells', WHERE WHAT IT READS IS OF BULK AT MOST 1048576: true; the input reads as it did. -/
def trendTellsUptoRow : OpenClaim := { program := "ytcanbagnehdbiaa", sum := "d721d8a82fd87f956b8bb7eb0e4517d7092abd61ac3746bf1f5dd23e72b71590", func := "flywheel/flywheellaw52.TrendTells", spec := "trendTells", inPlace := ["slices.overlaps[flywheel/api.Sample]"], unfollowed := true, recurses := true, apart := false, narrowed := true }
def TrendTellsUptoSaid : Prop := trendTellsUptoRow.holds Try.pinned (OpenSpec.upto trendTellsSpec)

/-- 'flywheellaw52.TrendAhead', WHERE WHAT IT READS IS OF BULK AT MOST 1048576: true; the input reads as it did. -/
def trendAheadUptoRow : OpenClaim := { program := "ytcanbagnehdbiaa", sum := "d721d8a82fd87f956b8bb7eb0e4517d7092abd61ac3746bf1f5dd23e72b71590", func := "flywheel/flywheellaw52.TrendAhead", spec := "trendAhead", inPlace := ["slices.overlaps[flywheel/api.Sample]"], unfollowed := true, recurses := true, apart := false, narrowed := true }
def TrendAheadUptoSaid : Prop := trendAheadUptoRow.holds Try.pinned (OpenSpec.upto trendAheadSpec)

/-- 'flywheellaw52.TrendFlat', WHERE WHAT IT READS IS OF BULK AT MOST 1048576: true; the input reads as it did. -/
def trendFlatUptoRow : OpenClaim := { program := "ytcanbagnehdbiaa", sum := "d721d8a82fd87f956b8bb7eb0e4517d7092abd61ac3746bf1f5dd23e72b71590", func := "flywheel/flywheellaw52.TrendFlat", spec := "trendFlat", inPlace := ["slices.overlaps[flywheel/api.Sample]"], unfollowed := true, recurses := true, apart := false, narrowed := true }
def TrendFlatUptoSaid : Prop := trendFlatUptoRow.holds Try.pinned (OpenSpec.upto trendFlatSpec)

end Rows
end Go.Proofs.Ytcanbagnehdbiaa
