/-
  No cell of these rows narrows 'for every input' (looked for: loops, veiled, ifaces, maps, wideKeys, modest, calm, conditions, laid).
  DERIVED. THE GIVEN ROWS OF THIS SEAT. 11 by the template 'for every input the law returns true; each argument reads behind the call as it read before'; 0 by the template 'total and deterministic' (their statements: YtcinfpgpldmkaaaTotals.lean).
  GIVEN WITH THE SEED: the statements are not yours to turn. If you find one false, say at which input.
  Laid BY PROGRAM, IN A SANDBOX (cutbox-rows.mjs): the forced cells as the released guide's own fill.sh prints them over the translation ec5808f061a3a9ae… (all of the seat's roots in one cut). By AI agents, Wed Nov 11 2026. No macro, syntax, notation, axiom, sorry.
-/
import Derived.Test.YtcinfpgpldmkaaaChecked
import GoSem.Claim
import GoSem.ClaimJoined
import GoSem.ClaimMapViews
import Derived.JoinedTies
import Derived.KernelRfl
namespace Go.Proofs.Ytcinfpgpldmkaaa
/- THE CELL 'sum', in the pinned program and in every row, IS THE sha256 OF THE DUMP (.gsa) THAT YtcinfpgpldmkaaaProg.lean LOADS. Nothing in Lean hashes anything: it is a label: what it is worth is what the hold of that sum in a sandbox is worth. -/
noncomputable def Try.pinned : Pinned := { name := "ytcinfpgpldmkaaa", sum := "ec5808f061a3a9ae6165c2a9dfeabe67b51532a9a5b70a54d05c55c16710a272", checked := Try.checked }
namespace Rows
def none {H : Type} : Left H := { results := [], args := [] }

/-- 'flywheellaw14.HistoryKeeps': WHATEVER THE INPUT: true; the input reads as it did. -/
def historyKeepsSpec : ChangeSpec := { name := "historyKeeps", fn := fun _ => fun
  | [d1, d2, d3] => { results := [.lit (.bool true)], args := [d1, d2, d3] }
  | _ => none }
def historyKeepsRow : OpenClaim := { program := "ytcinfpgpldmkaaa", sum := "ec5808f061a3a9ae6165c2a9dfeabe67b51532a9a5b70a54d05c55c16710a272", func := "flywheel/flywheellaw14.HistoryKeeps", spec := "historyKeeps", unfollowed := true, recurses := true, apart := false }
def HistoryKeepsSaid : Prop := historyKeepsRow.holds Try.pinned (OpenSpec.ofChange historyKeepsSpec)

/-- ITS FALSE NEIGHBOUR: 'it returns false'. Refute it at one input. -/
def historyKeepsWrong : ChangeSpec := { name := "historyKeeps", fn := fun _ => fun
  | [d1, d2, d3] => { results := [.lit (.bool false)], args := [d1, d2, d3] }
  | _ => none }
def HistoryKeepsWrongFalsely : Prop := historyKeepsRow.holds Try.pinned (OpenSpec.ofChange historyKeepsWrong)

/-- 'flywheellaw14.HistoryTells': WHATEVER THE INPUT: true; the input reads as it did. -/
def historyTellsSpec : ChangeSpec := { name := "historyTells", fn := fun _ => fun
  | [d1, d2, d3] => { results := [.lit (.bool true)], args := [d1, d2, d3] }
  | _ => none }
def historyTellsRow : OpenClaim := { program := "ytcinfpgpldmkaaa", sum := "ec5808f061a3a9ae6165c2a9dfeabe67b51532a9a5b70a54d05c55c16710a272", func := "flywheel/flywheellaw14.HistoryTells", spec := "historyTells", unfollowed := true, recurses := true, apart := false }
def HistoryTellsSaid : Prop := historyTellsRow.holds Try.pinned (OpenSpec.ofChange historyTellsSpec)

/-- ITS FALSE NEIGHBOUR: 'it returns false'. Refute it at one input. -/
def historyTellsWrong : ChangeSpec := { name := "historyTells", fn := fun _ => fun
  | [d1, d2, d3] => { results := [.lit (.bool false)], args := [d1, d2, d3] }
  | _ => none }
def HistoryTellsWrongFalsely : Prop := historyTellsRow.holds Try.pinned (OpenSpec.ofChange historyTellsWrong)

/-- 'flywheellaw16.DecideTells': WHATEVER THE INPUT: true; the input reads as it did. -/
def decideTellsSpec : ChangeSpec := { name := "decideTells", fn := fun _ => fun
  | [d1, d2, d3] => { results := [.lit (.bool true)], args := [d1, d2, d3] }
  | _ => none }
def decideTellsRow : OpenClaim := { program := "ytcinfpgpldmkaaa", sum := "ec5808f061a3a9ae6165c2a9dfeabe67b51532a9a5b70a54d05c55c16710a272", func := "flywheel/flywheellaw16.DecideTells", spec := "decideTells", apart := false }
def DecideTellsSaid : Prop := decideTellsRow.holds Try.pinned (OpenSpec.ofChange decideTellsSpec)

/-- ITS FALSE NEIGHBOUR: 'it returns false'. Refute it at one input. -/
def decideTellsWrong : ChangeSpec := { name := "decideTells", fn := fun _ => fun
  | [d1, d2, d3] => { results := [.lit (.bool false)], args := [d1, d2, d3] }
  | _ => none }
def DecideTellsWrongFalsely : Prop := decideTellsRow.holds Try.pinned (OpenSpec.ofChange decideTellsWrong)

/-- 'flywheellaw16.DecideWindow': WHATEVER THE INPUT: true; the input reads as it did. -/
def decideWindowSpec : ChangeSpec := { name := "decideWindow", fn := fun _ => fun
  | [d1, d2, d3] => { results := [.lit (.bool true)], args := [d1, d2, d3] }
  | _ => none }
def decideWindowRow : OpenClaim := { program := "ytcinfpgpldmkaaa", sum := "ec5808f061a3a9ae6165c2a9dfeabe67b51532a9a5b70a54d05c55c16710a272", func := "flywheel/flywheellaw16.DecideWindow", spec := "decideWindow", apart := false }
def DecideWindowSaid : Prop := decideWindowRow.holds Try.pinned (OpenSpec.ofChange decideWindowSpec)

/-- ITS FALSE NEIGHBOUR: 'it returns false'. Refute it at one input. -/
def decideWindowWrong : ChangeSpec := { name := "decideWindow", fn := fun _ => fun
  | [d1, d2, d3] => { results := [.lit (.bool false)], args := [d1, d2, d3] }
  | _ => none }
def DecideWindowWrongFalsely : Prop := decideWindowRow.holds Try.pinned (OpenSpec.ofChange decideWindowWrong)

/-- 'flywheellaw16.DecideFalls': WHATEVER THE INPUT: true; the input reads as it did. -/
def decideFallsSpec : ChangeSpec := { name := "decideFalls", fn := fun _ => fun
  | [d1, d2, d3] => { results := [.lit (.bool true)], args := [d1, d2, d3] }
  | _ => none }
def decideFallsRow : OpenClaim := { program := "ytcinfpgpldmkaaa", sum := "ec5808f061a3a9ae6165c2a9dfeabe67b51532a9a5b70a54d05c55c16710a272", func := "flywheel/flywheellaw16.DecideFalls", spec := "decideFalls", apart := false }
def DecideFallsSaid : Prop := decideFallsRow.holds Try.pinned (OpenSpec.ofChange decideFallsSpec)

/-- ITS FALSE NEIGHBOUR: 'it returns false'. Refute it at one input. -/
def decideFallsWrong : ChangeSpec := { name := "decideFalls", fn := fun _ => fun
  | [d1, d2, d3] => { results := [.lit (.bool false)], args := [d1, d2, d3] }
  | _ => none }
def DecideFallsWrongFalsely : Prop := decideFallsRow.holds Try.pinned (OpenSpec.ofChange decideFallsWrong)

/-- 'flywheellaw16.DecideFollows': WHATEVER THE INPUT: true; the input reads as it did. -/
def decideFollowsSpec : ChangeSpec := { name := "decideFollows", fn := fun _ => fun
  | [d1, d2, d3, d4] => { results := [.lit (.bool true)], args := [d1, d2, d3, d4] }
  | _ => none }
def decideFollowsRow : OpenClaim := { program := "ytcinfpgpldmkaaa", sum := "ec5808f061a3a9ae6165c2a9dfeabe67b51532a9a5b70a54d05c55c16710a272", func := "flywheel/flywheellaw16.DecideFollows", spec := "decideFollows", inPlace := ["slices.overlaps[flywheel/api.Sample]"], unfollowed := true, recurses := true, apart := false }
def DecideFollowsSaid : Prop := decideFollowsRow.holds Try.pinned (OpenSpec.ofChange decideFollowsSpec)

/-- ITS FALSE NEIGHBOUR: 'it returns false'. Refute it at one input. -/
def decideFollowsWrong : ChangeSpec := { name := "decideFollows", fn := fun _ => fun
  | [d1, d2, d3, d4] => { results := [.lit (.bool false)], args := [d1, d2, d3, d4] }
  | _ => none }
def DecideFollowsWrongFalsely : Prop := decideFollowsRow.holds Try.pinned (OpenSpec.ofChange decideFollowsWrong)

/-- 'flywheellaw44.TrialJudges': WHATEVER THE INPUT: true; the input reads as it did. -/
def trialJudgesSpec : ChangeSpec := { name := "trialJudges", fn := fun _ => fun
  | [d1, d2] => { results := [.lit (.bool true)], args := [d1, d2] }
  | _ => none }
def trialJudgesRow : OpenClaim := { program := "ytcinfpgpldmkaaa", sum := "ec5808f061a3a9ae6165c2a9dfeabe67b51532a9a5b70a54d05c55c16710a272", func := "flywheel/flywheellaw44.TrialJudges", spec := "trialJudges", apart := false }
def TrialJudgesSaid : Prop := trialJudgesRow.holds Try.pinned (OpenSpec.ofChange trialJudgesSpec)

/-- ITS FALSE NEIGHBOUR: 'it returns false'. Refute it at one input. -/
def trialJudgesWrong : ChangeSpec := { name := "trialJudges", fn := fun _ => fun
  | [d1, d2] => { results := [.lit (.bool false)], args := [d1, d2] }
  | _ => none }
def TrialJudgesWrongFalsely : Prop := trialJudgesRow.holds Try.pinned (OpenSpec.ofChange trialJudgesWrong)

/-- 'flywheellaw44.TrialOrders': WHATEVER THE INPUT: true; the input reads as it did. -/
def trialOrdersSpec : ChangeSpec := { name := "trialOrders", fn := fun _ => fun
  | [d1, d2, d3] => { results := [.lit (.bool true)], args := [d1, d2, d3] }
  | _ => none }
def trialOrdersRow : OpenClaim := { program := "ytcinfpgpldmkaaa", sum := "ec5808f061a3a9ae6165c2a9dfeabe67b51532a9a5b70a54d05c55c16710a272", func := "flywheel/flywheellaw44.TrialOrders", spec := "trialOrders", apart := false }
def TrialOrdersSaid : Prop := trialOrdersRow.holds Try.pinned (OpenSpec.ofChange trialOrdersSpec)

/-- ITS FALSE NEIGHBOUR: 'it returns false'. Refute it at one input. -/
def trialOrdersWrong : ChangeSpec := { name := "trialOrders", fn := fun _ => fun
  | [d1, d2, d3] => { results := [.lit (.bool false)], args := [d1, d2, d3] }
  | _ => none }
def TrialOrdersWrongFalsely : Prop := trialOrdersRow.holds Try.pinned (OpenSpec.ofChange trialOrdersWrong)

/-- 'flywheellaw48.AuditRules': WHATEVER THE INPUT: true; the input reads as it did. -/
def auditRulesSpec : ChangeSpec := { name := "auditRules", fn := fun _ => fun
  | [d1, d2, d3] => { results := [.lit (.bool true)], args := [d1, d2, d3] }
  | _ => none }
def auditRulesRow : OpenClaim := { program := "ytcinfpgpldmkaaa", sum := "ec5808f061a3a9ae6165c2a9dfeabe67b51532a9a5b70a54d05c55c16710a272", func := "flywheel/flywheellaw48.AuditRules", spec := "auditRules", apart := false }
def AuditRulesSaid : Prop := auditRulesRow.holds Try.pinned (OpenSpec.ofChange auditRulesSpec)

/-- ITS FALSE NEIGHBOUR: 'it returns false'. Refute it at one input. -/
def auditRulesWrong : ChangeSpec := { name := "auditRules", fn := fun _ => fun
  | [d1, d2, d3] => { results := [.lit (.bool false)], args := [d1, d2, d3] }
  | _ => none }
def AuditRulesWrongFalsely : Prop := auditRulesRow.holds Try.pinned (OpenSpec.ofChange auditRulesWrong)

/-- 'flywheellaw48.AuditChecks': WHATEVER THE INPUT: true; the input reads as it did. -/
def auditChecksSpec : ChangeSpec := { name := "auditChecks", fn := fun _ => fun
  | [d1, d2, d3] => { results := [.lit (.bool true)], args := [d1, d2, d3] }
  | _ => none }
def auditChecksRow : OpenClaim := { program := "ytcinfpgpldmkaaa", sum := "ec5808f061a3a9ae6165c2a9dfeabe67b51532a9a5b70a54d05c55c16710a272", func := "flywheel/flywheellaw48.AuditChecks", spec := "auditChecks", unfollowed := true, recurses := true, apart := false }
def AuditChecksSaid : Prop := auditChecksRow.holds Try.pinned (OpenSpec.ofChange auditChecksSpec)

/-- ITS FALSE NEIGHBOUR: 'it returns false'. Refute it at one input. -/
def auditChecksWrong : ChangeSpec := { name := "auditChecks", fn := fun _ => fun
  | [d1, d2, d3] => { results := [.lit (.bool false)], args := [d1, d2, d3] }
  | _ => none }
def AuditChecksWrongFalsely : Prop := auditChecksRow.holds Try.pinned (OpenSpec.ofChange auditChecksWrong)

/-- 'flywheellaw48.AuditFine': WHATEVER THE INPUT: true; the input reads as it did. -/
def auditFineSpec : ChangeSpec := { name := "auditFine", fn := fun _ => fun
  | [d1, d2, d3, d4] => { results := [.lit (.bool true)], args := [d1, d2, d3, d4] }
  | _ => none }
def auditFineRow : OpenClaim := { program := "ytcinfpgpldmkaaa", sum := "ec5808f061a3a9ae6165c2a9dfeabe67b51532a9a5b70a54d05c55c16710a272", func := "flywheel/flywheellaw48.AuditFine", spec := "auditFine", inPlace := ["slices.overlaps[flywheel/api.Sample]"], unfollowed := true, recurses := true, apart := false }
def AuditFineSaid : Prop := auditFineRow.holds Try.pinned (OpenSpec.ofChange auditFineSpec)

/-- ITS FALSE NEIGHBOUR: 'it returns false'. Refute it at one input. -/
def auditFineWrong : ChangeSpec := { name := "auditFine", fn := fun _ => fun
  | [d1, d2, d3, d4] => { results := [.lit (.bool false)], args := [d1, d2, d3, d4] }
  | _ => none }
def AuditFineWrongFalsely : Prop := auditFineRow.holds Try.pinned (OpenSpec.ofChange auditFineWrong)

/- THE SECOND FORM. 'bulk': how many values and letters a reading holds, each counted each time it is reached (what is shared counts as often as it is met; a slice's spare places count too). A statement '..UptoSaid' is the law's where the arguments, and the package variables that the reading takes, are together of bulk at most 1048576: NARROWER than '..Said'. Prove '..Said' where nothing that the law and all that it calls make is longer than what came in: it says more and counts as full. Else prove '..UptoSaid'. A law counts once. -/
mutual
def uptoBulk {H : Type} : DataW H → Nat
  | .lit (.string bytes) => bytes.length + 1
  | .lit _ => 1
  | .nil => 1
  | .ptr d => uptoBulk d + 1
  | .slice elems spare => uptoBulkAll elems + uptoBulkAll spare + 1
  | .agg parts => uptoBulkAll parts + 1
  | .iface _ d => uptoBulk d + 1
  | .map entries => uptoBulkEntries entries + 1
  | .held _ => 1
def uptoBulkAll {H : Type} : List (DataW H) → Nat
  | [] => 0
  | d :: r => uptoBulk d + uptoBulkAll r
def uptoBulkEntries {H : Type} : List (Lit × DataW H) → Nat
  | [] => 0
  | x :: r => uptoBulkEntry x + uptoBulkEntries r
def uptoBulkEntry {H : Type} : Lit × DataW H → Nat
  | (.string bytes, d) => bytes.length + uptoBulk d + 1
  | (_, d) => uptoBulk d + 1
 end
def uptoSmall : (H : Type) → List (DataW H) → Bool := fun _ ds => decide (uptoBulkAll ds ≤ 1048576)
def OpenSpec.upto (s : _root_.Go.ChangeSpec) : _root_.Go.OpenSpec := { _root_.Go.OpenSpec.ofChange s with cond := some uptoSmall }

/-- 'flywheellaw14.HistoryKeeps', WHERE WHAT IT READS IS OF BULK AT MOST 1048576: true; the input reads as it did. -/
def historyKeepsUptoRow : OpenClaim := { program := "ytcinfpgpldmkaaa", sum := "ec5808f061a3a9ae6165c2a9dfeabe67b51532a9a5b70a54d05c55c16710a272", func := "flywheel/flywheellaw14.HistoryKeeps", spec := "historyKeeps", unfollowed := true, recurses := true, apart := false, narrowed := true }
def HistoryKeepsUptoSaid : Prop := historyKeepsUptoRow.holds Try.pinned (OpenSpec.upto historyKeepsSpec)

/-- 'flywheellaw14.HistoryTells', WHERE WHAT IT READS IS OF BULK AT MOST 1048576: true; the input reads as it did. -/
def historyTellsUptoRow : OpenClaim := { program := "ytcinfpgpldmkaaa", sum := "ec5808f061a3a9ae6165c2a9dfeabe67b51532a9a5b70a54d05c55c16710a272", func := "flywheel/flywheellaw14.HistoryTells", spec := "historyTells", unfollowed := true, recurses := true, apart := false, narrowed := true }
def HistoryTellsUptoSaid : Prop := historyTellsUptoRow.holds Try.pinned (OpenSpec.upto historyTellsSpec)

/-- 'flywheellaw16.DecideTells', WHERE WHAT IT READS IS OF BULK AT MOST 1048576: true; the input reads as it did. -/
def decideTellsUptoRow : OpenClaim := { program := "ytcinfpgpldmkaaa", sum := "ec5808f061a3a9ae6165c2a9dfeabe67b51532a9a5b70a54d05c55c16710a272", func := "flywheel/flywheellaw16.DecideTells", spec := "decideTells", apart := false, narrowed := true }
def DecideTellsUptoSaid : Prop := decideTellsUptoRow.holds Try.pinned (OpenSpec.upto decideTellsSpec)

/-- 'flywheellaw16.DecideWindow', WHERE WHAT IT READS IS OF BULK AT MOST 1048576: true; the input reads as it did. -/
def decideWindowUptoRow : OpenClaim := { program := "ytcinfpgpldmkaaa", sum := "ec5808f061a3a9ae6165c2a9dfeabe67b51532a9a5b70a54d05c55c16710a272", func := "flywheel/flywheellaw16.DecideWindow", spec := "decideWindow", apart := false, narrowed := true }
def DecideWindowUptoSaid : Prop := decideWindowUptoRow.holds Try.pinned (OpenSpec.upto decideWindowSpec)

/-- 'flywheellaw16.DecideFalls', WHERE WHAT IT READS IS OF BULK AT MOST 1048576: true; the input reads as it did. -/
def decideFallsUptoRow : OpenClaim := { program := "ytcinfpgpldmkaaa", sum := "ec5808f061a3a9ae6165c2a9dfeabe67b51532a9a5b70a54d05c55c16710a272", func := "flywheel/flywheellaw16.DecideFalls", spec := "decideFalls", apart := false, narrowed := true }
def DecideFallsUptoSaid : Prop := decideFallsUptoRow.holds Try.pinned (OpenSpec.upto decideFallsSpec)

/-- 'flywheellaw16.DecideFollows', WHERE WHAT IT READS IS OF BULK AT MOST 1048576: true; the input reads as it did. -/
def decideFollowsUptoRow : OpenClaim := { program := "ytcinfpgpldmkaaa", sum := "ec5808f061a3a9ae6165c2a9dfeabe67b51532a9a5b70a54d05c55c16710a272", func := "flywheel/flywheellaw16.DecideFollows", spec := "decideFollows", inPlace := ["slices.overlaps[flywheel/api.Sample]"], unfollowed := true, recurses := true, apart := false, narrowed := true }
def DecideFollowsUptoSaid : Prop := decideFollowsUptoRow.holds Try.pinned (OpenSpec.upto decideFollowsSpec)

/-- 'flywheellaw44.TrialJudges', WHERE WHAT IT READS IS OF BULK AT MOST 1048576: true; the input reads as it did. -/
def trialJudgesUptoRow : OpenClaim := { program := "ytcinfpgpldmkaaa", sum := "ec5808f061a3a9ae6165c2a9dfeabe67b51532a9a5b70a54d05c55c16710a272", func := "flywheel/flywheellaw44.TrialJudges", spec := "trialJudges", apart := false, narrowed := true }
def TrialJudgesUptoSaid : Prop := trialJudgesUptoRow.holds Try.pinned (OpenSpec.upto trialJudgesSpec)

/-- 'flywheellaw44.TrialOrders', WHERE WHAT IT READS IS OF BULK AT MOST 1048576: true; the input reads as it did. -/
def trialOrdersUptoRow : OpenClaim := { program := "ytcinfpgpldmkaaa", sum := "ec5808f061a3a9ae6165c2a9dfeabe67b51532a9a5b70a54d05c55c16710a272", func := "flywheel/flywheellaw44.TrialOrders", spec := "trialOrders", apart := false, narrowed := true }
def TrialOrdersUptoSaid : Prop := trialOrdersUptoRow.holds Try.pinned (OpenSpec.upto trialOrdersSpec)

/-- 'flywheellaw48.AuditRules', WHERE WHAT IT READS IS OF BULK AT MOST 1048576: true; the input reads as it did. -/
def auditRulesUptoRow : OpenClaim := { program := "ytcinfpgpldmkaaa", sum := "ec5808f061a3a9ae6165c2a9dfeabe67b51532a9a5b70a54d05c55c16710a272", func := "flywheel/flywheellaw48.AuditRules", spec := "auditRules", apart := false, narrowed := true }
def AuditRulesUptoSaid : Prop := auditRulesUptoRow.holds Try.pinned (OpenSpec.upto auditRulesSpec)

/-- 'flywheellaw48.AuditChecks', WHERE WHAT IT READS IS OF BULK AT MOST 1048576: true; the input reads as it did. -/
def auditChecksUptoRow : OpenClaim := { program := "ytcinfpgpldmkaaa", sum := "ec5808f061a3a9ae6165c2a9dfeabe67b51532a9a5b70a54d05c55c16710a272", func := "flywheel/flywheellaw48.AuditChecks", spec := "auditChecks", unfollowed := true, recurses := true, apart := false, narrowed := true }
def AuditChecksUptoSaid : Prop := auditChecksUptoRow.holds Try.pinned (OpenSpec.upto auditChecksSpec)

/-- 'flywheellaw48.AuditFine', WHERE WHAT IT READS IS OF BULK AT MOST 1048576: true; the input reads as it did. -/
def auditFineUptoRow : OpenClaim := { program := "ytcinfpgpldmkaaa", sum := "ec5808f061a3a9ae6165c2a9dfeabe67b51532a9a5b70a54d05c55c16710a272", func := "flywheel/flywheellaw48.AuditFine", spec := "auditFine", inPlace := ["slices.overlaps[flywheel/api.Sample]"], unfollowed := true, recurses := true, apart := false, narrowed := true }
def AuditFineUptoSaid : Prop := auditFineUptoRow.holds Try.pinned (OpenSpec.upto auditFineSpec)

end Rows
end Go.Proofs.Ytcinfpgpldmkaaa
