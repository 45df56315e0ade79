/-
  No cell of these rows narrows 'for every input' (looked for: loops, veiled, ifaces, maps, wideKeys, modest, calm, conditions, laid).
  DERIVED. THE GIVEN ROWS OF THIS SEAT. 12 by the template 'for every input the law returns true; each argument reads behind the call as it read before'; 0 by the template 'total and deterministic' (their statements: YtlniiicpelldaaaTotals.lean).
  GIVEN WITH THE SEED: the statements are not yours to turn. If you find one false, say at which input.
  Laid BY PROGRAM, IN A SANDBOX (cutbox-rows.mjs): the forced cells as the released guide's own fill.sh prints them over the translation 924e4aa67fde7628… (all of the seat's roots in one cut). By AI agents, Wed Nov 11 2026. No macro, syntax, notation, axiom, sorry.
-/
import Derived.Test.YtlniiicpelldaaaChecked
import GoSem.Claim
import GoSem.ClaimJoined
import GoSem.ClaimMapViews
import Derived.JoinedTies
import Derived.KernelRfl
namespace Go.Proofs.Ytlniiicpelldaaa
/- THE CELL 'sum', in the pinned program and in every row, IS THE sha256 OF THE DUMP (.gsa) THAT YtlniiicpelldaaaProg.lean LOADS. Nothing in Lean hashes anything: it is a label: what it is worth is what the hold of that sum in a sandbox is worth. -/
noncomputable def Try.pinned : Pinned := { name := "ytlniiicpelldaaa", sum := "924e4aa67fde7628e306e3434f4e490b04b3181d714ddd1728b87abad99cd541", checked := Try.checked }
namespace Rows
def none {H : Type} : Left H := { results := [], args := [] }

/-- 'flywheellaw03.IdentPacks': WHATEVER THE INPUT: true; the input reads as it did. -/
def identPacksSpec : ChangeSpec := { name := "identPacks", fn := fun _ => fun
  | [d] => { results := [.lit (.bool true)], args := [d] }
  | _ => none }
def identPacksRow : OpenClaim := { program := "ytlniiicpelldaaa", sum := "924e4aa67fde7628e306e3434f4e490b04b3181d714ddd1728b87abad99cd541", func := "flywheel/flywheellaw03.IdentPacks", spec := "identPacks", inPlace := ["internal/bytealg.IndexByteString", "internal/bytealg.IndexString"], named := ["internal/bytealg.MaxLen"], apart := false }
def IdentPacksSaid : Prop := identPacksRow.holds Try.pinned (OpenSpec.ofChange identPacksSpec)

/-- ITS FALSE NEIGHBOUR: 'it returns false'. Refute it at one input. -/
def identPacksWrong : ChangeSpec := { name := "identPacks", fn := fun _ => fun
  | [d] => { results := [.lit (.bool false)], args := [d] }
  | _ => none }
def IdentPacksWrongFalsely : Prop := identPacksRow.holds Try.pinned (OpenSpec.ofChange identPacksWrong)

/-- 'flywheellaw03.IdentUnpacks': WHATEVER THE INPUT: true; the input reads as it did. -/
def identUnpacksSpec : ChangeSpec := { name := "identUnpacks", fn := fun _ => fun
  | [d] => { results := [.lit (.bool true)], args := [d] }
  | _ => none }
def identUnpacksRow : OpenClaim := { program := "ytlniiicpelldaaa", sum := "924e4aa67fde7628e306e3434f4e490b04b3181d714ddd1728b87abad99cd541", func := "flywheel/flywheellaw03.IdentUnpacks", spec := "identUnpacks", inPlace := ["internal/bytealg.IndexByteString", "internal/bytealg.IndexString"], named := ["internal/bytealg.MaxLen"], apart := false }
def IdentUnpacksSaid : Prop := identUnpacksRow.holds Try.pinned (OpenSpec.ofChange identUnpacksSpec)

/-- ITS FALSE NEIGHBOUR: 'it returns false'. Refute it at one input. -/
def identUnpacksWrong : ChangeSpec := { name := "identUnpacks", fn := fun _ => fun
  | [d] => { results := [.lit (.bool false)], args := [d] }
  | _ => none }
def IdentUnpacksWrongFalsely : Prop := identUnpacksRow.holds Try.pinned (OpenSpec.ofChange identUnpacksWrong)

/-- 'flywheellaw03.IdentOrders': WHATEVER THE INPUT: true; the input reads as it did. -/
def identOrdersSpec : ChangeSpec := { name := "identOrders", fn := fun _ => fun
  | [d1, d2] => { results := [.lit (.bool true)], args := [d1, d2] }
  | _ => none }
def identOrdersRow : OpenClaim := { program := "ytlniiicpelldaaa", sum := "924e4aa67fde7628e306e3434f4e490b04b3181d714ddd1728b87abad99cd541", func := "flywheel/flywheellaw03.IdentOrders", spec := "identOrders", inPlace := ["internal/bytealg.IndexByteString", "internal/bytealg.IndexString"], named := ["internal/bytealg.MaxLen"], apart := false }
def IdentOrdersSaid : Prop := identOrdersRow.holds Try.pinned (OpenSpec.ofChange identOrdersSpec)

/-- ITS FALSE NEIGHBOUR: 'it returns false'. Refute it at one input. -/
def identOrdersWrong : ChangeSpec := { name := "identOrders", fn := fun _ => fun
  | [d1, d2] => { results := [.lit (.bool false)], args := [d1, d2] }
  | _ => none }
def IdentOrdersWrongFalsely : Prop := identOrdersRow.holds Try.pinned (OpenSpec.ofChange identOrdersWrong)

/-- 'flywheellaw03.IdentRises': WHATEVER THE INPUT: true; the input reads as it did. -/
def identRisesSpec : ChangeSpec := { name := "identRises", fn := fun _ => fun
  | [d] => { results := [.lit (.bool true)], args := [d] }
  | _ => none }
def identRisesRow : OpenClaim := { program := "ytlniiicpelldaaa", sum := "924e4aa67fde7628e306e3434f4e490b04b3181d714ddd1728b87abad99cd541", func := "flywheel/flywheellaw03.IdentRises", spec := "identRises", inPlace := ["internal/bytealg.IndexByteString", "internal/bytealg.IndexString"], unfollowed := true, recurses := true, named := ["internal/bytealg.MaxLen"], apart := false }
def IdentRisesSaid : Prop := identRisesRow.holds Try.pinned (OpenSpec.ofChange identRisesSpec)

/-- ITS FALSE NEIGHBOUR: 'it returns false'. Refute it at one input. -/
def identRisesWrong : ChangeSpec := { name := "identRises", fn := fun _ => fun
  | [d] => { results := [.lit (.bool false)], args := [d] }
  | _ => none }
def IdentRisesWrongFalsely : Prop := identRisesRow.holds Try.pinned (OpenSpec.ofChange identRisesWrong)

/-- 'flywheellaw04.FnvSums': WHATEVER THE INPUT: true; the input reads as it did. -/
def fnvSumsSpec : ChangeSpec := { name := "fnvSums", fn := fun _ => fun
  | [d1, d2] => { results := [.lit (.bool true)], args := [d1, d2] }
  | _ => none }
def fnvSumsRow : OpenClaim := { program := "ytlniiicpelldaaa", sum := "924e4aa67fde7628e306e3434f4e490b04b3181d714ddd1728b87abad99cd541", func := "flywheel/flywheellaw04.FnvSums", spec := "fnvSums", apart := false }
def FnvSumsSaid : Prop := fnvSumsRow.holds Try.pinned (OpenSpec.ofChange fnvSumsSpec)

/-- ITS FALSE NEIGHBOUR: 'it returns false'. Refute it at one input. -/
def fnvSumsWrong : ChangeSpec := { name := "fnvSums", fn := fun _ => fun
  | [d1, d2] => { results := [.lit (.bool false)], args := [d1, d2] }
  | _ => none }
def FnvSumsWrongFalsely : Prop := fnvSumsRow.holds Try.pinned (OpenSpec.ofChange fnvSumsWrong)

/-- 'flywheellaw04.FnvSteps': WHATEVER THE INPUT: true; the input reads as it did. -/
def fnvStepsSpec : ChangeSpec := { name := "fnvSteps", fn := fun _ => fun
  | [d1, d2, d3] => { results := [.lit (.bool true)], args := [d1, d2, d3] }
  | _ => none }
def fnvStepsRow : OpenClaim := { program := "ytlniiicpelldaaa", sum := "924e4aa67fde7628e306e3434f4e490b04b3181d714ddd1728b87abad99cd541", func := "flywheel/flywheellaw04.FnvSteps", spec := "fnvSteps", apart := false }
def FnvStepsSaid : Prop := fnvStepsRow.holds Try.pinned (OpenSpec.ofChange fnvStepsSpec)

/-- ITS FALSE NEIGHBOUR: 'it returns false'. Refute it at one input. -/
def fnvStepsWrong : ChangeSpec := { name := "fnvSteps", fn := fun _ => fun
  | [d1, d2, d3] => { results := [.lit (.bool false)], args := [d1, d2, d3] }
  | _ => none }
def FnvStepsWrongFalsely : Prop := fnvStepsRow.holds Try.pinned (OpenSpec.ofChange fnvStepsWrong)

/-- 'flywheellaw04.FnvFolds': WHATEVER THE INPUT: true; the input reads as it did. -/
def fnvFoldsSpec : ChangeSpec := { name := "fnvFolds", fn := fun _ => fun
  | [d1, d2] => { results := [.lit (.bool true)], args := [d1, d2] }
  | _ => none }
def fnvFoldsRow : OpenClaim := { program := "ytlniiicpelldaaa", sum := "924e4aa67fde7628e306e3434f4e490b04b3181d714ddd1728b87abad99cd541", func := "flywheel/flywheellaw04.FnvFolds", spec := "fnvFolds", apart := false }
def FnvFoldsSaid : Prop := fnvFoldsRow.holds Try.pinned (OpenSpec.ofChange fnvFoldsSpec)

/-- ITS FALSE NEIGHBOUR: 'it returns false'. Refute it at one input. -/
def fnvFoldsWrong : ChangeSpec := { name := "fnvFolds", fn := fun _ => fun
  | [d1, d2] => { results := [.lit (.bool false)], args := [d1, d2] }
  | _ => none }
def FnvFoldsWrongFalsely : Prop := fnvFoldsRow.holds Try.pinned (OpenSpec.ofChange fnvFoldsWrong)

/-- 'flywheellaw05.RouteTells': WHATEVER THE INPUT: true; the input reads as it did. -/
def routeTellsSpec : ChangeSpec := { name := "routeTells", fn := fun _ => fun
  | [d1, d2] => { results := [.lit (.bool true)], args := [d1, d2] }
  | _ => none }
def routeTellsRow : OpenClaim := { program := "ytlniiicpelldaaa", sum := "924e4aa67fde7628e306e3434f4e490b04b3181d714ddd1728b87abad99cd541", func := "flywheel/flywheellaw05.RouteTells", spec := "routeTells", apart := false }
def RouteTellsSaid : Prop := routeTellsRow.holds Try.pinned (OpenSpec.ofChange routeTellsSpec)

/-- ITS FALSE NEIGHBOUR: 'it returns false'. Refute it at one input. -/
def routeTellsWrong : ChangeSpec := { name := "routeTells", fn := fun _ => fun
  | [d1, d2] => { results := [.lit (.bool false)], args := [d1, d2] }
  | _ => none }
def RouteTellsWrongFalsely : Prop := routeTellsRow.holds Try.pinned (OpenSpec.ofChange routeTellsWrong)

/-- 'flywheellaw05.RouteSplits': WHATEVER THE INPUT: true; the input reads as it did. -/
def routeSplitsSpec : ChangeSpec := { name := "routeSplits", fn := fun _ => fun
  | [d1, d2] => { results := [.lit (.bool true)], args := [d1, d2] }
  | _ => none }
def routeSplitsRow : OpenClaim := { program := "ytlniiicpelldaaa", sum := "924e4aa67fde7628e306e3434f4e490b04b3181d714ddd1728b87abad99cd541", func := "flywheel/flywheellaw05.RouteSplits", spec := "routeSplits", unfollowed := true, recurses := true, apart := false }
def RouteSplitsSaid : Prop := routeSplitsRow.holds Try.pinned (OpenSpec.ofChange routeSplitsSpec)

/-- ITS FALSE NEIGHBOUR: 'it returns false'. Refute it at one input. -/
def routeSplitsWrong : ChangeSpec := { name := "routeSplits", fn := fun _ => fun
  | [d1, d2] => { results := [.lit (.bool false)], args := [d1, d2] }
  | _ => none }
def RouteSplitsWrongFalsely : Prop := routeSplitsRow.holds Try.pinned (OpenSpec.ofChange routeSplitsWrong)

/-- 'flywheellaw06.ZigPuts': WHATEVER THE INPUT: true; the input reads as it did. -/
def zigPutsSpec : ChangeSpec := { name := "zigPuts", fn := fun _ => fun
  | [d1, d2] => { results := [.lit (.bool true)], args := [d1, d2] }
  | _ => none }
def zigPutsRow : OpenClaim := { program := "ytlniiicpelldaaa", sum := "924e4aa67fde7628e306e3434f4e490b04b3181d714ddd1728b87abad99cd541", func := "flywheel/flywheellaw06.ZigPuts", spec := "zigPuts", apart := false }
def ZigPutsSaid : Prop := zigPutsRow.holds Try.pinned (OpenSpec.ofChange zigPutsSpec)

/-- ITS FALSE NEIGHBOUR: 'it returns false'. Refute it at one input. -/
def zigPutsWrong : ChangeSpec := { name := "zigPuts", fn := fun _ => fun
  | [d1, d2] => { results := [.lit (.bool false)], args := [d1, d2] }
  | _ => none }
def ZigPutsWrongFalsely : Prop := zigPutsRow.holds Try.pinned (OpenSpec.ofChange zigPutsWrong)

/-- 'flywheellaw06.ZigGets': WHATEVER THE INPUT: true; the input reads as it did. -/
def zigGetsSpec : ChangeSpec := { name := "zigGets", fn := fun _ => fun
  | [d] => { results := [.lit (.bool true)], args := [d] }
  | _ => none }
def zigGetsRow : OpenClaim := { program := "ytlniiicpelldaaa", sum := "924e4aa67fde7628e306e3434f4e490b04b3181d714ddd1728b87abad99cd541", func := "flywheel/flywheellaw06.ZigGets", spec := "zigGets", apart := false }
def ZigGetsSaid : Prop := zigGetsRow.holds Try.pinned (OpenSpec.ofChange zigGetsSpec)

/-- ITS FALSE NEIGHBOUR: 'it returns false'. Refute it at one input. -/
def zigGetsWrong : ChangeSpec := { name := "zigGets", fn := fun _ => fun
  | [d] => { results := [.lit (.bool false)], args := [d] }
  | _ => none }
def ZigGetsWrongFalsely : Prop := zigGetsRow.holds Try.pinned (OpenSpec.ofChange zigGetsWrong)

/-- 'flywheellaw06.ZigReads': WHATEVER THE INPUT: true; the input reads as it did. -/
def zigReadsSpec : ChangeSpec := { name := "zigReads", fn := fun _ => fun
  | [d1, d2] => { results := [.lit (.bool true)], args := [d1, d2] }
  | _ => none }
def zigReadsRow : OpenClaim := { program := "ytlniiicpelldaaa", sum := "924e4aa67fde7628e306e3434f4e490b04b3181d714ddd1728b87abad99cd541", func := "flywheel/flywheellaw06.ZigReads", spec := "zigReads", apart := false }
def ZigReadsSaid : Prop := zigReadsRow.holds Try.pinned (OpenSpec.ofChange zigReadsSpec)

/-- ITS FALSE NEIGHBOUR: 'it returns false'. Refute it at one input. -/
def zigReadsWrong : ChangeSpec := { name := "zigReads", fn := fun _ => fun
  | [d1, d2] => { results := [.lit (.bool false)], args := [d1, d2] }
  | _ => none }
def ZigReadsWrongFalsely : Prop := zigReadsRow.holds Try.pinned (OpenSpec.ofChange zigReadsWrong)

/- THE SECOND FORM. 'bulk': how many values and letters a reading holds, each counted each time it is reached (what is shared counts as often as it is met; a slice's spare places count too). A statement '..UptoSaid' is the law's where the arguments, and the package variables that the reading takes, are together of bulk at most 1048576: NARROWER than '..Said'. Prove '..Said' where nothing that the law and all that it calls make is longer than what came in: it says more and counts as full. Else prove '..UptoSaid'. A law counts once. -/
mutual
def uptoBulk {H : Type} : DataW H → Nat
  | .lit (.string bytes) => bytes.length + 1
  | .lit _ => 1
  | .nil => 1
  | .ptr d => uptoBulk d + 1
  | .slice elems spare => uptoBulkAll elems + uptoBulkAll spare + 1
  | .agg parts => uptoBulkAll parts + 1
  | .iface _ d => uptoBulk d + 1
  | .map entries => uptoBulkEntries entries + 1
  | .held _ => 1
def uptoBulkAll {H : Type} : List (DataW H) → Nat
  | [] => 0
  | d :: r => uptoBulk d + uptoBulkAll r
def uptoBulkEntries {H : Type} : List (Lit × DataW H) → Nat
  | [] => 0
  | x :: r => uptoBulkEntry x + uptoBulkEntries r
def uptoBulkEntry {H : Type} : Lit × DataW H → Nat
  | (.string bytes, d) => bytes.length + uptoBulk d + 1
  | (_, d) => uptoBulk d + 1
 end
def uptoSmall : (H : Type) → List (DataW H) → Bool := fun _ ds => decide (uptoBulkAll ds ≤ 1048576)
def OpenSpec.upto (s : _root_.Go.ChangeSpec) : _root_.Go.OpenSpec := { _root_.Go.OpenSpec.ofChange s with cond := some uptoSmall }

/-- 'flywheellaw03.IdentPacks', WHERE WHAT IT READS IS OF BULK AT MOST 1048576: true; the input reads as it did. -/
def identPacksUptoRow : OpenClaim := { program := "ytlniiicpelldaaa", sum := "924e4aa67fde7628e306e3434f4e490b04b3181d714ddd1728b87abad99cd541", func := "flywheel/flywheellaw03.IdentPacks", spec := "identPacks", inPlace := ["internal/bytealg.IndexByteString", "internal/bytealg.IndexString"], named := ["internal/bytealg.MaxLen"], apart := false, narrowed := true }
def IdentPacksUptoSaid : Prop := identPacksUptoRow.holds Try.pinned (OpenSpec.upto identPacksSpec)

/-- 'flywheellaw03.IdentUnpacks', WHERE WHAT IT READS IS OF BULK AT MOST 1048576: true; the input reads as it did. -/
def identUnpacksUptoRow : OpenClaim := { program := "ytlniiicpelldaaa", sum := "924e4aa67fde7628e306e3434f4e490b04b3181d714ddd1728b87abad99cd541", func := "flywheel/flywheellaw03.IdentUnpacks", spec := "identUnpacks", inPlace := ["internal/bytealg.IndexByteString", "internal/bytealg.IndexString"], named := ["internal/bytealg.MaxLen"], apart := false, narrowed := true }
def IdentUnpacksUptoSaid : Prop := identUnpacksUptoRow.holds Try.pinned (OpenSpec.upto identUnpacksSpec)

/-- 'flywheellaw03.IdentOrders', WHERE WHAT IT READS IS OF BULK AT MOST 1048576: true; the input reads as it did. -/
def identOrdersUptoRow : OpenClaim := { program := "ytlniiicpelldaaa", sum := "924e4aa67fde7628e306e3434f4e490b04b3181d714ddd1728b87abad99cd541", func := "flywheel/flywheellaw03.IdentOrders", spec := "identOrders", inPlace := ["internal/bytealg.IndexByteString", "internal/bytealg.IndexString"], named := ["internal/bytealg.MaxLen"], apart := false, narrowed := true }
def IdentOrdersUptoSaid : Prop := identOrdersUptoRow.holds Try.pinned (OpenSpec.upto identOrdersSpec)

/-- 'flywheellaw03.IdentRises', WHERE WHAT IT READS IS OF BULK AT MOST 1048576: true; the input reads as it did. -/
def identRisesUptoRow : OpenClaim := { program := "ytlniiicpelldaaa", sum := "924e4aa67fde7628e306e3434f4e490b04b3181d714ddd1728b87abad99cd541", func := "flywheel/flywheellaw03.IdentRises", spec := "identRises", inPlace := ["internal/bytealg.IndexByteString", "internal/bytealg.IndexString"], unfollowed := true, recurses := true, named := ["internal/bytealg.MaxLen"], apart := false, narrowed := true }
def IdentRisesUptoSaid : Prop := identRisesUptoRow.holds Try.pinned (OpenSpec.upto identRisesSpec)

/-- 'flywheellaw04.FnvSums', WHERE WHAT IT READS IS OF BULK AT MOST 1048576: true; the input reads as it did. -/
def fnvSumsUptoRow : OpenClaim := { program := "ytlniiicpelldaaa", sum := "924e4aa67fde7628e306e3434f4e490b04b3181d714ddd1728b87abad99cd541", func := "flywheel/flywheellaw04.FnvSums", spec := "fnvSums", apart := false, narrowed := true }
def FnvSumsUptoSaid : Prop := fnvSumsUptoRow.holds Try.pinned (OpenSpec.upto fnvSumsSpec)

/-- 'flywheellaw04.FnvSteps', WHERE WHAT IT READS IS OF BULK AT MOST 1048576: true; the input reads as it did. -/
def fnvStepsUptoRow : OpenClaim := { program := "ytlniiicpelldaaa", sum := "924e4aa67fde7628e306e3434f4e490b04b3181d714ddd1728b87abad99cd541", func := "flywheel/flywheellaw04.FnvSteps", spec := "fnvSteps", apart := false, narrowed := true }
def FnvStepsUptoSaid : Prop := fnvStepsUptoRow.holds Try.pinned (OpenSpec.upto fnvStepsSpec)

/-- 'flywheellaw04.FnvFolds', WHERE WHAT IT READS IS OF BULK AT MOST 1048576: true; the input reads as it did. -/
def fnvFoldsUptoRow : OpenClaim := { program := "ytlniiicpelldaaa", sum := "924e4aa67fde7628e306e3434f4e490b04b3181d714ddd1728b87abad99cd541", func := "flywheel/flywheellaw04.FnvFolds", spec := "fnvFolds", apart := false, narrowed := true }
def FnvFoldsUptoSaid : Prop := fnvFoldsUptoRow.holds Try.pinned (OpenSpec.upto fnvFoldsSpec)

/-- 'flywheellaw05.RouteTells', WHERE WHAT IT READS IS OF BULK AT MOST 1048576: true; the input reads as it did. -/
def routeTellsUptoRow : OpenClaim := { program := "ytlniiicpelldaaa", sum := "924e4aa67fde7628e306e3434f4e490b04b3181d714ddd1728b87abad99cd541", func := "flywheel/flywheellaw05.RouteTells", spec := "routeTells", apart := false, narrowed := true }
def RouteTellsUptoSaid : Prop := routeTellsUptoRow.holds Try.pinned (OpenSpec.upto routeTellsSpec)

/-- 'flywheellaw05.RouteSplits', WHERE WHAT IT READS IS OF BULK AT MOST 1048576: true; the input reads as it did. -/
def routeSplitsUptoRow : OpenClaim := { program := "ytlniiicpelldaaa", sum := "924e4aa67fde7628e306e3434f4e490b04b3181d714ddd1728b87abad99cd541", func := "flywheel/flywheellaw05.RouteSplits", spec := "routeSplits", unfollowed := true, recurses := true, apart := false, narrowed := true }
def RouteSplitsUptoSaid : Prop := routeSplitsUptoRow.holds Try.pinned (OpenSpec.upto routeSplitsSpec)

/-- 'flywheellaw06.ZigPuts', WHERE WHAT IT READS IS OF BULK AT MOST 1048576: true; the input reads as it did. -/
def zigPutsUptoRow : OpenClaim := { program := "ytlniiicpelldaaa", sum := "924e4aa67fde7628e306e3434f4e490b04b3181d714ddd1728b87abad99cd541", func := "flywheel/flywheellaw06.ZigPuts", spec := "zigPuts", apart := false, narrowed := true }
def ZigPutsUptoSaid : Prop := zigPutsUptoRow.holds Try.pinned (OpenSpec.upto zigPutsSpec)

/-- 'flywheellaw06.ZigGets', WHERE WHAT IT READS IS OF BULK AT MOST 1048576: true; the input reads as it did. -/
def zigGetsUptoRow : OpenClaim := { program := "ytlniiicpelldaaa", sum := "924e4aa67fde7628e306e3434f4e490b04b3181d714ddd1728b87abad99cd541", func := "flywheel/flywheellaw06.ZigGets", spec := "zigGets", apart := false, narrowed := true }
def ZigGetsUptoSaid : Prop := zigGetsUptoRow.holds Try.pinned (OpenSpec.upto zigGetsSpec)

/-- 'flywheellaw06.ZigReads', WHERE WHAT IT READS IS OF BULK AT MOST 1048576: true; the input reads as it did. -/
def zigReadsUptoRow : OpenClaim := { program := "ytlniiicpelldaaa", sum := "924e4aa67fde7628e306e3434f4e490b04b3181d714ddd1728b87abad99cd541", func := "flywheel/flywheellaw06.ZigReads", spec := "zigReads", apart := false, narrowed := true }
def ZigReadsUptoSaid : Prop := zigReadsUptoRow.holds Try.pinned (OpenSpec.upto zigReadsSpec)

end Rows
end Go.Proofs.Ytlniiicpelldaaa
