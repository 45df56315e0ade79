/-
  No cell of these rows narrows 'for every input' (looked for: loops, veiled, ifaces, maps, wideKeys, modest, calm, conditions, laid).
  DERIVED. THE GIVEN ROWS OF THIS SEAT. 12 by the template 'for every input the law returns true; each argument reads behind the call as it read before'; 0 by the template 'total and deterministic' (their statements: YtapgcbjlgekpeaaTotals.lean).
  GIVEN WITH THE SEED: the statements are not yours to turn. If you find one false, say at which input.
  Laid BY PROGRAM, IN A SANDBOX (cutbox-rows.mjs): the forced cells as the released guide's own fill.sh prints them over the translation ac88fbdfbecfa594… (all of the seat's roots in one cut). By AI agents, Wed Nov 11 2026. No macro, syntax, notation, axiom, sorry.
-/
import Derived.Test.YtapgcbjlgekpeaaChecked
import GoSem.Claim
import GoSem.ClaimJoined
import GoSem.ClaimMapViews
import Derived.JoinedTies
import Derived.KernelRfl
namespace Go.Proofs.Ytapgcbjlgekpeaa
/- THE CELL 'sum', in the pinned program and in every row, IS THE sha256 OF THE DUMP (.gsa) THAT YtapgcbjlgekpeaaProg.lean LOADS. Nothing in Lean hashes anything: it is a label: what it is worth is what the hold of that sum in a sandbox is worth. -/
noncomputable def Try.pinned : Pinned := { name := "ytapgcbjlgekpeaa", sum := "ac88fbdfbecfa59436e3bcce1d0d360a1ea6b2259dc4ceadb4e2b20436a1b67e", checked := Try.checked }
namespace Rows
def none {H : Type} : Left H := { results := [], args := [] }

/-- 'flywheellaw17.NodeNone': WHATEVER THE INPUT: true; the input reads as it did. -/
def nodeNoneSpec : ChangeSpec := { name := "nodeNone", fn := fun _ => fun
  | [d] => { results := [.lit (.bool true)], args := [d] }
  | _ => none }
def nodeNoneRow : OpenClaim := { program := "ytapgcbjlgekpeaa", sum := "ac88fbdfbecfa59436e3bcce1d0d360a1ea6b2259dc4ceadb4e2b20436a1b67e", func := "flywheel/flywheellaw17.NodeNone", spec := "nodeNone", inPlace := ["slices.overlaps[flywheel/api.Sample]"], unfollowed := true, recurses := true, apart := false }
def NodeNoneSaid : Prop := nodeNoneRow.holds Try.pinned (OpenSpec.ofChange nodeNoneSpec)

/-- ITS FALSE NEIGHBOUR: 'it returns false'. Refute it at one input. -/
def nodeNoneWrong : ChangeSpec := { name := "nodeNone", fn := fun _ => fun
  | [d] => { results := [.lit (.bool false)], args := [d] }
  | _ => none }
def NodeNoneWrongFalsely : Prop := nodeNoneRow.holds Try.pinned (OpenSpec.ofChange nodeNoneWrong)

/-- 'flywheellaw17.NodePlays': WHATEVER THE INPUT: true; the input reads as it did. -/
def nodePlaysSpec : ChangeSpec := { name := "nodePlays", fn := fun _ => fun
  | [d1, d2] => { results := [.lit (.bool true)], args := [d1, d2] }
  | _ => none }
def nodePlaysRow : OpenClaim := { program := "ytapgcbjlgekpeaa", sum := "ac88fbdfbecfa59436e3bcce1d0d360a1ea6b2259dc4ceadb4e2b20436a1b67e", func := "flywheel/flywheellaw17.NodePlays", spec := "nodePlays", inPlace := ["slices.overlaps[flywheel/api.Sample]"], unfollowed := true, recurses := true, apart := false }
def NodePlaysSaid : Prop := nodePlaysRow.holds Try.pinned (OpenSpec.ofChange nodePlaysSpec)

/-- ITS FALSE NEIGHBOUR: 'it returns false'. Refute it at one input. -/
def nodePlaysWrong : ChangeSpec := { name := "nodePlays", fn := fun _ => fun
  | [d1, d2] => { results := [.lit (.bool false)], args := [d1, d2] }
  | _ => none }
def NodePlaysWrongFalsely : Prop := nodePlaysRow.holds Try.pinned (OpenSpec.ofChange nodePlaysWrong)

/-- 'flywheellaw17.NodeFreezes': WHATEVER THE INPUT: true; the input reads as it did. -/
def nodeFreezesSpec : ChangeSpec := { name := "nodeFreezes", fn := fun _ => fun
  | [d1, d2, d3] => { results := [.lit (.bool true)], args := [d1, d2, d3] }
  | _ => none }
def nodeFreezesRow : OpenClaim := { program := "ytapgcbjlgekpeaa", sum := "ac88fbdfbecfa59436e3bcce1d0d360a1ea6b2259dc4ceadb4e2b20436a1b67e", func := "flywheel/flywheellaw17.NodeFreezes", spec := "nodeFreezes", inPlace := ["slices.overlaps[flywheel/api.Sample]"], unfollowed := true, recurses := true, apart := false }
def NodeFreezesSaid : Prop := nodeFreezesRow.holds Try.pinned (OpenSpec.ofChange nodeFreezesSpec)

/-- ITS FALSE NEIGHBOUR: 'it returns false'. Refute it at one input. -/
def nodeFreezesWrong : ChangeSpec := { name := "nodeFreezes", fn := fun _ => fun
  | [d1, d2, d3] => { results := [.lit (.bool false)], args := [d1, d2, d3] }
  | _ => none }
def NodeFreezesWrongFalsely : Prop := nodeFreezesRow.holds Try.pinned (OpenSpec.ofChange nodeFreezesWrong)

/-- 'flywheellaw05.RouteSplits': WHATEVER THE INPUT: true; the input reads as it did. -/
def routeSplitsSpec : ChangeSpec := { name := "routeSplits", fn := fun _ => fun
  | [d1, d2] => { results := [.lit (.bool true)], args := [d1, d2] }
  | _ => none }
def routeSplitsRow : OpenClaim := { program := "ytapgcbjlgekpeaa", sum := "ac88fbdfbecfa59436e3bcce1d0d360a1ea6b2259dc4ceadb4e2b20436a1b67e", func := "flywheel/flywheellaw05.RouteSplits", spec := "routeSplits", unfollowed := true, recurses := true, apart := false }
def RouteSplitsSaid : Prop := routeSplitsRow.holds Try.pinned (OpenSpec.ofChange routeSplitsSpec)

/-- ITS FALSE NEIGHBOUR: 'it returns false'. Refute it at one input. -/
def routeSplitsWrong : ChangeSpec := { name := "routeSplits", fn := fun _ => fun
  | [d1, d2] => { results := [.lit (.bool false)], args := [d1, d2] }
  | _ => none }
def RouteSplitsWrongFalsely : Prop := routeSplitsRow.holds Try.pinned (OpenSpec.ofChange routeSplitsWrong)

/-- 'flywheellaw11.PackPuts': WHATEVER THE INPUT: true; the input reads as it did. -/
def packPutsSpec : ChangeSpec := { name := "packPuts", fn := fun _ => fun
  | [d] => { results := [.lit (.bool true)], args := [d] }
  | _ => none }
def packPutsRow : OpenClaim := { program := "ytapgcbjlgekpeaa", sum := "ac88fbdfbecfa59436e3bcce1d0d360a1ea6b2259dc4ceadb4e2b20436a1b67e", func := "flywheel/flywheellaw11.PackPuts", spec := "packPuts", apart := false }
def PackPutsSaid : Prop := packPutsRow.holds Try.pinned (OpenSpec.ofChange packPutsSpec)

/-- ITS FALSE NEIGHBOUR: 'it returns false'. Refute it at one input. -/
def packPutsWrong : ChangeSpec := { name := "packPuts", fn := fun _ => fun
  | [d] => { results := [.lit (.bool false)], args := [d] }
  | _ => none }
def PackPutsWrongFalsely : Prop := packPutsRow.holds Try.pinned (OpenSpec.ofChange packPutsWrong)

/-- 'flywheellaw11.PackGets': WHATEVER THE INPUT: true; the input reads as it did. -/
def packGetsSpec : ChangeSpec := { name := "packGets", fn := fun _ => fun
  | [d] => { results := [.lit (.bool true)], args := [d] }
  | _ => none }
def packGetsRow : OpenClaim := { program := "ytapgcbjlgekpeaa", sum := "ac88fbdfbecfa59436e3bcce1d0d360a1ea6b2259dc4ceadb4e2b20436a1b67e", func := "flywheel/flywheellaw11.PackGets", spec := "packGets", apart := false }
def PackGetsSaid : Prop := packGetsRow.holds Try.pinned (OpenSpec.ofChange packGetsSpec)

/-- ITS FALSE NEIGHBOUR: 'it returns false'. Refute it at one input. -/
def packGetsWrong : ChangeSpec := { name := "packGets", fn := fun _ => fun
  | [d] => { results := [.lit (.bool false)], args := [d] }
  | _ => none }
def PackGetsWrongFalsely : Prop := packGetsRow.holds Try.pinned (OpenSpec.ofChange packGetsWrong)

/-- 'flywheellaw23.FifoPlays': WHATEVER THE INPUT: true; the input reads as it did. -/
def fifoPlaysSpec : ChangeSpec := { name := "fifoPlays", fn := fun _ => fun
  | [d1, d2] => { results := [.lit (.bool true)], args := [d1, d2] }
  | _ => none }
def fifoPlaysRow : OpenClaim := { program := "ytapgcbjlgekpeaa", sum := "ac88fbdfbecfa59436e3bcce1d0d360a1ea6b2259dc4ceadb4e2b20436a1b67e", func := "flywheel/flywheellaw23.FifoPlays", spec := "fifoPlays", unfollowed := true, recurses := true, apart := false }
def FifoPlaysSaid : Prop := fifoPlaysRow.holds Try.pinned (OpenSpec.ofChange fifoPlaysSpec)

/-- ITS FALSE NEIGHBOUR: 'it returns false'. Refute it at one input. -/
def fifoPlaysWrong : ChangeSpec := { name := "fifoPlays", fn := fun _ => fun
  | [d1, d2] => { results := [.lit (.bool false)], args := [d1, d2] }
  | _ => none }
def FifoPlaysWrongFalsely : Prop := fifoPlaysRow.holds Try.pinned (OpenSpec.ofChange fifoPlaysWrong)

/-- 'flywheellaw23.FifoTexts': WHATEVER THE INPUT: true; the input reads as it did. -/
def fifoTextsSpec : ChangeSpec := { name := "fifoTexts", fn := fun _ => fun
  | [d1, d2] => { results := [.lit (.bool true)], args := [d1, d2] }
  | _ => none }
def fifoTextsRow : OpenClaim := { program := "ytapgcbjlgekpeaa", sum := "ac88fbdfbecfa59436e3bcce1d0d360a1ea6b2259dc4ceadb4e2b20436a1b67e", func := "flywheel/flywheellaw23.FifoTexts", spec := "fifoTexts", unfollowed := true, recurses := true, apart := false }
def FifoTextsSaid : Prop := fifoTextsRow.holds Try.pinned (OpenSpec.ofChange fifoTextsSpec)

/-- ITS FALSE NEIGHBOUR: 'it returns false'. Refute it at one input. -/
def fifoTextsWrong : ChangeSpec := { name := "fifoTexts", fn := fun _ => fun
  | [d1, d2] => { results := [.lit (.bool false)], args := [d1, d2] }
  | _ => none }
def FifoTextsWrongFalsely : Prop := fifoTextsRow.holds Try.pinned (OpenSpec.ofChange fifoTextsWrong)

/-- 'flywheellaw25.RwlockPlays': WHATEVER THE INPUT: true; the input reads as it did. -/
def rwlockPlaysSpec : ChangeSpec := { name := "rwlockPlays", fn := fun _ => fun
  | [d] => { results := [.lit (.bool true)], args := [d] }
  | _ => none }
def rwlockPlaysRow : OpenClaim := { program := "ytapgcbjlgekpeaa", sum := "ac88fbdfbecfa59436e3bcce1d0d360a1ea6b2259dc4ceadb4e2b20436a1b67e", func := "flywheel/flywheellaw25.RwlockPlays", spec := "rwlockPlays", unfollowed := true, recurses := true, apart := false }
def RwlockPlaysSaid : Prop := rwlockPlaysRow.holds Try.pinned (OpenSpec.ofChange rwlockPlaysSpec)

/-- ITS FALSE NEIGHBOUR: 'it returns false'. Refute it at one input. -/
def rwlockPlaysWrong : ChangeSpec := { name := "rwlockPlays", fn := fun _ => fun
  | [d] => { results := [.lit (.bool false)], args := [d] }
  | _ => none }
def RwlockPlaysWrongFalsely : Prop := rwlockPlaysRow.holds Try.pinned (OpenSpec.ofChange rwlockPlaysWrong)

/-- 'flywheellaw25.RwlockAlone': WHATEVER THE INPUT: true; the input reads as it did. -/
def rwlockAloneSpec : ChangeSpec := { name := "rwlockAlone", fn := fun _ => fun
  | [d] => { results := [.lit (.bool true)], args := [d] }
  | _ => none }
def rwlockAloneRow : OpenClaim := { program := "ytapgcbjlgekpeaa", sum := "ac88fbdfbecfa59436e3bcce1d0d360a1ea6b2259dc4ceadb4e2b20436a1b67e", func := "flywheel/flywheellaw25.RwlockAlone", spec := "rwlockAlone", unfollowed := true, recurses := true, apart := false }
def RwlockAloneSaid : Prop := rwlockAloneRow.holds Try.pinned (OpenSpec.ofChange rwlockAloneSpec)

/-- ITS FALSE NEIGHBOUR: 'it returns false'. Refute it at one input. -/
def rwlockAloneWrong : ChangeSpec := { name := "rwlockAlone", fn := fun _ => fun
  | [d] => { results := [.lit (.bool false)], args := [d] }
  | _ => none }
def RwlockAloneWrongFalsely : Prop := rwlockAloneRow.holds Try.pinned (OpenSpec.ofChange rwlockAloneWrong)

/-- 'flywheellaw25.RwlockNone': WHATEVER THE INPUT: true; the input reads as it did. -/
def rwlockNoneSpec : ChangeSpec := { name := "rwlockNone", fn := fun _ => fun
  | [d1, d2] => { results := [.lit (.bool true)], args := [d1, d2] }
  | _ => none }
def rwlockNoneRow : OpenClaim := { program := "ytapgcbjlgekpeaa", sum := "ac88fbdfbecfa59436e3bcce1d0d360a1ea6b2259dc4ceadb4e2b20436a1b67e", func := "flywheel/flywheellaw25.RwlockNone", spec := "rwlockNone", unfollowed := true, recurses := true, apart := false }
def RwlockNoneSaid : Prop := rwlockNoneRow.holds Try.pinned (OpenSpec.ofChange rwlockNoneSpec)

/-- ITS FALSE NEIGHBOUR: 'it returns false'. Refute it at one input. -/
def rwlockNoneWrong : ChangeSpec := { name := "rwlockNone", fn := fun _ => fun
  | [d1, d2] => { results := [.lit (.bool false)], args := [d1, d2] }
  | _ => none }
def RwlockNoneWrongFalsely : Prop := rwlockNoneRow.holds Try.pinned (OpenSpec.ofChange rwlockNoneWrong)

/-- 'flywheellaw07.RingTells': WHATEVER THE INPUT: true; the input reads as it did. -/
def ringTellsSpec : ChangeSpec := { name := "ringTells", fn := fun _ => fun
  | [d1, d2, d3, d4] => { results := [.lit (.bool true)], args := [d1, d2, d3, d4] }
  | _ => none }
def ringTellsRow : OpenClaim := { program := "ytapgcbjlgekpeaa", sum := "ac88fbdfbecfa59436e3bcce1d0d360a1ea6b2259dc4ceadb4e2b20436a1b67e", func := "flywheel/flywheellaw07.RingTells", spec := "ringTells", unfollowed := true, recurses := true, apart := false }
def RingTellsSaid : Prop := ringTellsRow.holds Try.pinned (OpenSpec.ofChange ringTellsSpec)

/-- ITS FALSE NEIGHBOUR: 'it returns false'. Refute it at one input. -/
def ringTellsWrong : ChangeSpec := { name := "ringTells", fn := fun _ => fun
  | [d1, d2, d3, d4] => { results := [.lit (.bool false)], args := [d1, d2, d3, d4] }
  | _ => none }
def RingTellsWrongFalsely : Prop := ringTellsRow.holds Try.pinned (OpenSpec.ofChange ringTellsWrong)

/- THE SECOND FORM. 'bulk': how many values and letters a reading holds, each counted each time it is reached (what is shared counts as often as it is met; a slice's spare places count too). A statement '..UptoSaid' is the law's where the arguments, and the package variables that the reading takes, are together of bulk at most 1048576: NARROWER than '..Said'. Prove '..Said' where nothing that the law and all that it calls make is longer than what came in: it says more and counts as full. Else prove '..UptoSaid'. A law counts once. -/
mutual
def uptoBulk {H : Type} : DataW H → Nat
  | .lit (.string bytes) => bytes.length + 1
  | .lit _ => 1
  | .nil => 1
  | .ptr d => uptoBulk d + 1
  | .slice elems spare => uptoBulkAll elems + uptoBulkAll spare + 1
  | .agg parts => uptoBulkAll parts + 1
  | .iface _ d => uptoBulk d + 1
  | .map entries => uptoBulkEntries entries + 1
  | .held _ => 1
def uptoBulkAll {H : Type} : List (DataW H) → Nat
  | [] => 0
  | d :: r => uptoBulk d + uptoBulkAll r
def uptoBulkEntries {H : Type} : List (Lit × DataW H) → Nat
  | [] => 0
  | x :: r => uptoBulkEntry x + uptoBulkEntries r
def uptoBulkEntry {H : Type} : Lit × DataW H → Nat
  | (.string bytes, d) => bytes.length + uptoBulk d + 1
  | (_, d) => uptoBulk d + 1
 end
def uptoSmall : (H : Type) → List (DataW H) → Bool := fun _ ds => decide (uptoBulkAll ds ≤ 1048576)
def OpenSpec.upto (s : _root_.Go.ChangeSpec) : _root_.Go.OpenSpec := { _root_.Go.OpenSpec.ofChange s with cond := some uptoSmall }

/-- 'flywheellaw17.NodeNone', WHERE WHAT IT READS IS OF BULK AT MOST 1048576: true; the input reads as it did. -/
def nodeNoneUptoRow : OpenClaim := { program := "ytapgcbjlgekpeaa", sum := "ac88fbdfbecfa59436e3bcce1d0d360a1ea6b2259dc4ceadb4e2b20436a1b67e", func := "flywheel/flywheellaw17.NodeNone", spec := "nodeNone", inPlace := ["slices.overlaps[flywheel/api.Sample]"], unfollowed := true, recurses := true, apart := false, narrowed := true }
def NodeNoneUptoSaid : Prop := nodeNoneUptoRow.holds Try.pinned (OpenSpec.upto nodeNoneSpec)

/-- 'flywheellaw17.NodePlays', WHERE WHAT IT READS IS OF BULK AT MOST 1048576: true; the input reads as it did. -/
def nodePlaysUptoRow : OpenClaim := { program := "ytapgcbjlgekpeaa", sum := "ac88fbdfbecfa59436e3bcce1d0d360a1ea6b2259dc4ceadb4e2b20436a1b67e", func := "flywheel/flywheellaw17.NodePlays", spec := "nodePlays", inPlace := ["slices.overlaps[flywheel/api.Sample]"], unfollowed := true, recurses := true, apart := false, narrowed := true }
def NodePlaysUptoSaid : Prop := nodePlaysUptoRow.holds Try.pinned (OpenSpec.upto nodePlaysSpec)

/-- 'flywheellaw17.NodeFreezes', WHERE WHAT IT READS IS OF BULK AT MOST 1048576: true; the input reads as it did. -/
def nodeFreezesUptoRow : OpenClaim := { program := "ytapgcbjlgekpeaa", sum := "ac88fbdfbecfa59436e3bcce1d0d360a1ea6b2259dc4ceadb4e2b20436a1b67e", func := "flywheel/flywheellaw17.NodeFreezes", spec := "nodeFreezes", inPlace := ["slices.overlaps[flywheel/api.Sample]"], unfollowed := true, recurses := true, apart := false, narrowed := true }
def NodeFreezesUptoSaid : Prop := nodeFreezesUptoRow.holds Try.pinned (OpenSpec.upto nodeFreezesSpec)

/-- 'flywheellaw05.RouteSplits', WHERE WHAT IT READS IS OF BULK AT MOST 1048576: true; the input reads as it did. -/
def routeSplitsUptoRow : OpenClaim := { program := "ytapgcbjlgekpeaa", sum := "ac88fbdfbecfa59436e3bcce1d0d360a1ea6b2259dc4ceadb4e2b20436a1b67e", func := "flywheel/flywheellaw05.RouteSplits", spec := "routeSplits", unfollowed := true, recurses := true, apart := false, narrowed := true }
def RouteSplitsUptoSaid : Prop := routeSplitsUptoRow.holds Try.pinned (OpenSpec.upto routeSplitsSpec)

/-- 'flywheellaw11.PackPuts', WHERE WHAT IT READS IS OF BULK AT MOST 1048576: true; the input reads as it did. -/
def packPutsUptoRow : OpenClaim := { program := "ytapgcbjlgekpeaa", sum := "ac88fbdfbecfa59436e3bcce1d0d360a1ea6b2259dc4ceadb4e2b20436a1b67e", func := "flywheel/flywheellaw11.PackPuts", spec := "packPuts", apart := false, narrowed := true }
def PackPutsUptoSaid : Prop := packPutsUptoRow.holds Try.pinned (OpenSpec.upto packPutsSpec)

/-- 'flywheellaw11.PackGets', WHERE WHAT IT READS IS OF BULK AT MOST 1048576: true; the input reads as it did. -/
def packGetsUptoRow : OpenClaim := { program := "ytapgcbjlgekpeaa", sum := "ac88fbdfbecfa59436e3bcce1d0d360a1ea6b2259dc4ceadb4e2b20436a1b67e", func := "flywheel/flywheellaw11.PackGets", spec := "packGets", apart := false, narrowed := true }
def PackGetsUptoSaid : Prop := packGetsUptoRow.holds Try.pinned (OpenSpec.upto packGetsSpec)

/-- 'flywheellaw23.FifoPlays', WHERE WHAT IT READS IS OF BULK AT MOST 1048576: true; the input reads as it did. -/
def fifoPlaysUptoRow : OpenClaim := { program := "ytapgcbjlgekpeaa", sum := "ac88fbdfbecfa59436e3bcce1d0d360a1ea6b2259dc4ceadb4e2b20436a1b67e", func := "flywheel/flywheellaw23.FifoPlays", spec := "fifoPlays", unfollowed := true, recurses := true, apart := false, narrowed := true }
def FifoPlaysUptoSaid : Prop := fifoPlaysUptoRow.holds Try.pinned (OpenSpec.upto fifoPlaysSpec)

/-- 'flywheellaw23.FifoTexts', WHERE WHAT IT READS IS OF BULK AT MOST 1048576: true; the input reads as it did. -/
def fifoTextsUptoRow : OpenClaim := { program := "ytapgcbjlgekpeaa", sum := "ac88fbdfbecfa59436e3bcce1d0d360a1ea6b2259dc4ceadb4e2b20436a1b67e", func := "flywheel/flywheellaw23.FifoTexts", spec := "fifoTexts", unfollowed := true, recurses := true, apart := false, narrowed := true }
def FifoTextsUptoSaid : Prop := fifoTextsUptoRow.holds Try.pinned (OpenSpec.upto fifoTextsSpec)

/-- 'flywheellaw25.RwlockPlays', WHERE WHAT IT READS IS OF BULK AT MOST 1048576: true; the input reads as it did. -/
def rwlockPlaysUptoRow : OpenClaim := { program := "ytapgcbjlgekpeaa", sum := "ac88fbdfbecfa59436e3bcce1d0d360a1ea6b2259dc4ceadb4e2b20436a1b67e", func := "flywheel/flywheellaw25.RwlockPlays", spec := "rwlockPlays", unfollowed := true, recurses := true, apart := false, narrowed := true }
def RwlockPlaysUptoSaid : Prop := rwlockPlaysUptoRow.holds Try.pinned (OpenSpec.upto rwlockPlaysSpec)

/-- 'flywheellaw25.RwlockAlone', WHERE WHAT IT READS IS OF BULK AT MOST 1048576: true; the input reads as it did. -/
def rwlockAloneUptoRow : OpenClaim := { program := "ytapgcbjlgekpeaa", sum := "ac88fbdfbecfa59436e3bcce1d0d360a1ea6b2259dc4ceadb4e2b20436a1b67e", func := "flywheel/flywheellaw25.RwlockAlone", spec := "rwlockAlone", unfollowed := true, recurses := true, apart := false, narrowed := true }
def RwlockAloneUptoSaid : Prop := rwlockAloneUptoRow.holds Try.pinned (OpenSpec.upto rwlockAloneSpec)

/-- 'flywheellaw25.RwlockNone', WHERE WHAT IT READS IS OF BULK AT MOST 1048576: true; the input reads as it did. -/
def rwlockNoneUptoRow : OpenClaim := { program := "ytapgcbjlgekpeaa", sum := "ac88fbdfbecfa59436e3bcce1d0d360a1ea6b2259dc4ceadb4e2b20436a1b67e", func := "flywheel/flywheellaw25.RwlockNone", spec := "rwlockNone", unfollowed := true, recurses := true, apart := false, narrowed := true }
def RwlockNoneUptoSaid : Prop := rwlockNoneUptoRow.holds Try.pinned (OpenSpec.upto rwlockNoneSpec)

/-- 'flywheellaw07.RingTells', WHERE WHAT IT READS IS OF BULK AT MOST 1048576: true; the input reads as it did. -/
def ringTellsUptoRow : OpenClaim := { program := "ytapgcbjlgekpeaa", sum := "ac88fbdfbecfa59436e3bcce1d0d360a1ea6b2259dc4ceadb4e2b20436a1b67e", func := "flywheel/flywheellaw07.RingTells", spec := "ringTells", unfollowed := true, recurses := true, apart := false, narrowed := true }
def RingTellsUptoSaid : Prop := ringTellsUptoRow.holds Try.pinned (OpenSpec.upto ringTellsSpec)

end Rows
end Go.Proofs.Ytapgcbjlgekpeaa
