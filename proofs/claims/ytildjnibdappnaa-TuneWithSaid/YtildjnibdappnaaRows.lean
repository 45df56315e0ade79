/-
  No cell of these rows narrows 'for every input' (looked for: loops, veiled, ifaces, maps, wideKeys, modest, calm, conditions, laid).
  DERIVED. THE GIVEN ROWS OF THIS SEAT. 9 by the template 'for every input the law returns true; each argument reads behind the call as it read before'; 0 by the template 'total and deterministic' (their statements: YtildjnibdappnaaTotals.lean).
  GIVEN WITH THE SEED: the statements are not yours to turn. If you find one false, say at which input.
  Laid BY PROGRAM, IN A SANDBOX (cutbox-rows.mjs): the forced cells as the released guide's own fill.sh prints them over the translation bb54e7dba25cb32c… (all of the seat's roots in one cut). By AI agents, Wed Nov 11 2026. No macro, syntax, notation, axiom, sorry.
-/
import Derived.Test.YtildjnibdappnaaChecked
import GoSem.Claim
import GoSem.ClaimJoined
import GoSem.ClaimMapViews
import Derived.JoinedTies
import Derived.KernelRfl
namespace Go.Proofs.Ytildjnibdappnaa
/- THE CELL 'sum', in the pinned program and in every row, IS THE sha256 OF THE DUMP (.gsa) THAT YtildjnibdappnaaProg.lean LOADS. Nothing in Lean hashes anything: it is a label: what it is worth is what the hold of that sum in a sandbox is worth. -/
noncomputable def Try.pinned : Pinned := { name := "ytildjnibdappnaa", sum := "bb54e7dba25cb32c65b45adc322b66d364be06b4be8f0225175d44721b957100", checked := Try.checked }
namespace Rows
def none {H : Type} : Left H := { results := [], args := [] }

/-- 'flywheellaw14.HistoryKeeps': WHATEVER THE INPUT: true; the input reads as it did. -/
def historyKeepsSpec : ChangeSpec := { name := "historyKeeps", fn := fun _ => fun
  | [d1, d2, d3] => { results := [.lit (.bool true)], args := [d1, d2, d3] }
  | _ => none }
def historyKeepsRow : OpenClaim := { program := "ytildjnibdappnaa", sum := "bb54e7dba25cb32c65b45adc322b66d364be06b4be8f0225175d44721b957100", func := "flywheel/flywheellaw14.HistoryKeeps", spec := "historyKeeps", unfollowed := true, recurses := true, apart := false }
def HistoryKeepsSaid : Prop := historyKeepsRow.holds Try.pinned (OpenSpec.ofChange historyKeepsSpec)

/-- ITS FALSE NEIGHBOUR: 'it returns false'. Refute it at one input. -/
def historyKeepsWrong : ChangeSpec := { name := "historyKeeps", fn := fun _ => fun
  | [d1, d2, d3] => { results := [.lit (.bool false)], args := [d1, d2, d3] }
  | _ => none }
def HistoryKeepsWrongFalsely : Prop := historyKeepsRow.holds Try.pinned (OpenSpec.ofChange historyKeepsWrong)

/-- 'flywheellaw14.HistoryTells': WHATEVER THE INPUT: true; the input reads as it did. -/
def historyTellsSpec : ChangeSpec := { name := "historyTells", fn := fun _ => fun
  | [d1, d2, d3] => { results := [.lit (.bool true)], args := [d1, d2, d3] }
  | _ => none }
def historyTellsRow : OpenClaim := { program := "ytildjnibdappnaa", sum := "bb54e7dba25cb32c65b45adc322b66d364be06b4be8f0225175d44721b957100", func := "flywheel/flywheellaw14.HistoryTells", spec := "historyTells", unfollowed := true, recurses := true, apart := false }
def HistoryTellsSaid : Prop := historyTellsRow.holds Try.pinned (OpenSpec.ofChange historyTellsSpec)

/-- ITS FALSE NEIGHBOUR: 'it returns false'. Refute it at one input. -/
def historyTellsWrong : ChangeSpec := { name := "historyTells", fn := fun _ => fun
  | [d1, d2, d3] => { results := [.lit (.bool false)], args := [d1, d2, d3] }
  | _ => none }
def HistoryTellsWrongFalsely : Prop := historyTellsRow.holds Try.pinned (OpenSpec.ofChange historyTellsWrong)

/-- 'flywheellaw16.DecideFollows': WHATEVER THE INPUT: true; the input reads as it did. -/
def decideFollowsSpec : ChangeSpec := { name := "decideFollows", fn := fun _ => fun
  | [d1, d2, d3, d4] => { results := [.lit (.bool true)], args := [d1, d2, d3, d4] }
  | _ => none }
def decideFollowsRow : OpenClaim := { program := "ytildjnibdappnaa", sum := "bb54e7dba25cb32c65b45adc322b66d364be06b4be8f0225175d44721b957100", func := "flywheel/flywheellaw16.DecideFollows", spec := "decideFollows", inPlace := ["slices.overlaps[flywheel/api.Sample]"], unfollowed := true, recurses := true, apart := false }
def DecideFollowsSaid : Prop := decideFollowsRow.holds Try.pinned (OpenSpec.ofChange decideFollowsSpec)

/-- ITS FALSE NEIGHBOUR: 'it returns false'. Refute it at one input. -/
def decideFollowsWrong : ChangeSpec := { name := "decideFollows", fn := fun _ => fun
  | [d1, d2, d3, d4] => { results := [.lit (.bool false)], args := [d1, d2, d3, d4] }
  | _ => none }
def DecideFollowsWrongFalsely : Prop := decideFollowsRow.holds Try.pinned (OpenSpec.ofChange decideFollowsWrong)

/-- 'flywheellaw48.AuditChecks': WHATEVER THE INPUT: true; the input reads as it did. -/
def auditChecksSpec : ChangeSpec := { name := "auditChecks", fn := fun _ => fun
  | [d1, d2, d3] => { results := [.lit (.bool true)], args := [d1, d2, d3] }
  | _ => none }
def auditChecksRow : OpenClaim := { program := "ytildjnibdappnaa", sum := "bb54e7dba25cb32c65b45adc322b66d364be06b4be8f0225175d44721b957100", func := "flywheel/flywheellaw48.AuditChecks", spec := "auditChecks", unfollowed := true, recurses := true, apart := false }
def AuditChecksSaid : Prop := auditChecksRow.holds Try.pinned (OpenSpec.ofChange auditChecksSpec)

/-- ITS FALSE NEIGHBOUR: 'it returns false'. Refute it at one input. -/
def auditChecksWrong : ChangeSpec := { name := "auditChecks", fn := fun _ => fun
  | [d1, d2, d3] => { results := [.lit (.bool false)], args := [d1, d2, d3] }
  | _ => none }
def AuditChecksWrongFalsely : Prop := auditChecksRow.holds Try.pinned (OpenSpec.ofChange auditChecksWrong)

/-- 'flywheellaw48.AuditFine': WHATEVER THE INPUT: true; the input reads as it did. -/
def auditFineSpec : ChangeSpec := { name := "auditFine", fn := fun _ => fun
  | [d1, d2, d3, d4] => { results := [.lit (.bool true)], args := [d1, d2, d3, d4] }
  | _ => none }
def auditFineRow : OpenClaim := { program := "ytildjnibdappnaa", sum := "bb54e7dba25cb32c65b45adc322b66d364be06b4be8f0225175d44721b957100", func := "flywheel/flywheellaw48.AuditFine", spec := "auditFine", inPlace := ["slices.overlaps[flywheel/api.Sample]"], unfollowed := true, recurses := true, apart := false }
def AuditFineSaid : Prop := auditFineRow.holds Try.pinned (OpenSpec.ofChange auditFineSpec)

/-- ITS FALSE NEIGHBOUR: 'it returns false'. Refute it at one input. -/
def auditFineWrong : ChangeSpec := { name := "auditFine", fn := fun _ => fun
  | [d1, d2, d3, d4] => { results := [.lit (.bool false)], args := [d1, d2, d3, d4] }
  | _ => none }
def AuditFineWrongFalsely : Prop := auditFineRow.holds Try.pinned (OpenSpec.ofChange auditFineWrong)

/-- 'flywheellaw45.TuneWith': WHATEVER THE INPUT: true; the input reads as it did. -/
def tuneWithSpec : ChangeSpec := { name := "tuneWith", fn := fun _ => fun
  | [d1, d2, d3, d4, d5, d6] => { results := [.lit (.bool true)], args := [d1, d2, d3, d4, d5, d6] }
  | _ => none }
def tuneWithRow : OpenClaim := { program := "ytildjnibdappnaa", sum := "bb54e7dba25cb32c65b45adc322b66d364be06b4be8f0225175d44721b957100", func := "flywheel/flywheellaw45.TuneWith", spec := "tuneWith", apart := false }
def TuneWithSaid : Prop := tuneWithRow.holds Try.pinned (OpenSpec.ofChange tuneWithSpec)

/-- ITS FALSE NEIGHBOUR: 'it returns false'. Refute it at one input. -/
def tuneWithWrong : ChangeSpec := { name := "tuneWith", fn := fun _ => fun
  | [d1, d2, d3, d4, d5, d6] => { results := [.lit (.bool false)], args := [d1, d2, d3, d4, d5, d6] }
  | _ => none }
def TuneWithWrongFalsely : Prop := tuneWithRow.holds Try.pinned (OpenSpec.ofChange tuneWithWrong)

/-- 'flywheellaw51.BudgetShares': WHATEVER THE INPUT: true; the input reads as it did. -/
def budgetSharesSpec : ChangeSpec := { name := "budgetShares", fn := fun _ => fun
  | [d1, d2] => { results := [.lit (.bool true)], args := [d1, d2] }
  | _ => none }
def budgetSharesRow : OpenClaim := { program := "ytildjnibdappnaa", sum := "bb54e7dba25cb32c65b45adc322b66d364be06b4be8f0225175d44721b957100", func := "flywheel/flywheellaw51.BudgetShares", spec := "budgetShares", unfollowed := true, recurses := true, apart := false }
def BudgetSharesSaid : Prop := budgetSharesRow.holds Try.pinned (OpenSpec.ofChange budgetSharesSpec)

/-- ITS FALSE NEIGHBOUR: 'it returns false'. Refute it at one input. -/
def budgetSharesWrong : ChangeSpec := { name := "budgetShares", fn := fun _ => fun
  | [d1, d2] => { results := [.lit (.bool false)], args := [d1, d2] }
  | _ => none }
def BudgetSharesWrongFalsely : Prop := budgetSharesRow.holds Try.pinned (OpenSpec.ofChange budgetSharesWrong)

/-- 'flywheellaw51.BudgetFair': WHATEVER THE INPUT: true; the input reads as it did. -/
def budgetFairSpec : ChangeSpec := { name := "budgetFair", fn := fun _ => fun
  | [d1, d2] => { results := [.lit (.bool true)], args := [d1, d2] }
  | _ => none }
def budgetFairRow : OpenClaim := { program := "ytildjnibdappnaa", sum := "bb54e7dba25cb32c65b45adc322b66d364be06b4be8f0225175d44721b957100", func := "flywheel/flywheellaw51.BudgetFair", spec := "budgetFair", unfollowed := true, recurses := true, apart := false }
def BudgetFairSaid : Prop := budgetFairRow.holds Try.pinned (OpenSpec.ofChange budgetFairSpec)

/-- ITS FALSE NEIGHBOUR: 'it returns false'. Refute it at one input. -/
def budgetFairWrong : ChangeSpec := { name := "budgetFair", fn := fun _ => fun
  | [d1, d2] => { results := [.lit (.bool false)], args := [d1, d2] }
  | _ => none }
def BudgetFairWrongFalsely : Prop := budgetFairRow.holds Try.pinned (OpenSpec.ofChange budgetFairWrong)

/-- 'flywheellaw51.BudgetFits': WHATEVER THE INPUT: true; the input reads as it did. -/
def budgetFitsSpec : ChangeSpec := { name := "budgetFits", fn := fun _ => fun
  | [d1, d2, d3] => { results := [.lit (.bool true)], args := [d1, d2, d3] }
  | _ => none }
def budgetFitsRow : OpenClaim := { program := "ytildjnibdappnaa", sum := "bb54e7dba25cb32c65b45adc322b66d364be06b4be8f0225175d44721b957100", func := "flywheel/flywheellaw51.BudgetFits", spec := "budgetFits", unfollowed := true, recurses := true, apart := false }
def BudgetFitsSaid : Prop := budgetFitsRow.holds Try.pinned (OpenSpec.ofChange budgetFitsSpec)

/-- ITS FALSE NEIGHBOUR: 'it returns false'. Refute it at one input. -/
def budgetFitsWrong : ChangeSpec := { name := "budgetFits", fn := fun _ => fun
  | [d1, d2, d3] => { results := [.lit (.bool false)], args := [d1, d2, d3] }
  | _ => none }
def BudgetFitsWrongFalsely : Prop := budgetFitsRow.holds Try.pinned (OpenSpec.ofChange budgetFitsWrong)

/- THE SECOND FORM. 'bulk': how many values and letters a reading holds, each counted each time it is reached (what is shared counts as often as it is met; a slice's spare places count too). A statement '..UptoSaid' is the law's where the arguments, and the package variables that the reading takes, are together of bulk at most 1048576: NARROWER than '..Said'. Prove '..Said' where nothing that the law and all that it calls make is longer than what came in: it says more and counts as full. Else prove '..UptoSaid'. A law counts once. -/
mutual
def uptoBulk {H : Type} : DataW H → Nat
  | .lit (.string bytes) => bytes.length + 1
  | .lit _ => 1
  | .nil => 1
  | .ptr d => uptoBulk d + 1
  | .slice elems spare => uptoBulkAll elems + uptoBulkAll spare + 1
  | .agg parts => uptoBulkAll parts + 1
  | .iface _ d => uptoBulk d + 1
  | .map entries => uptoBulkEntries entries + 1
  | .held _ => 1
def uptoBulkAll {H : Type} : List (DataW H) → Nat
  | [] => 0
  | d :: r => uptoBulk d + uptoBulkAll r
def uptoBulkEntries {H : Type} : List (Lit × DataW H) → Nat
  | [] => 0
  | x :: r => uptoBulkEntry x + uptoBulkEntries r
def uptoBulkEntry {H : Type} : Lit × DataW H → Nat
  | (.string bytes, d) => bytes.length + uptoBulk d + 1
  | (_, d) => uptoBulk d + 1
 end
def uptoSmall : (H : Type) → List (DataW H) → Bool := fun _ ds => decide (uptoBulkAll ds ≤ 1048576)
def OpenSpec.upto (s : _root_.Go.ChangeSpec) : _root_.Go.OpenSpec := { _root_.Go.OpenSpec.ofChange s with cond := some uptoSmall }

/-- 'flywheellaw14.HistoryKeeps', WHERE WHAT IT READS IS OF BULK AT MOST 1048576: true; the input reads as it did. -/
def historyKeepsUptoRow : OpenClaim := { program := "ytildjnibdappnaa", sum := "bb54e7dba25cb32c65b45adc322b66d364be06b4be8f0225175d44721b957100", func := "flywheel/flywheellaw14.HistoryKeeps", spec := "historyKeeps", unfollowed := true, recurses := true, apart := false, narrowed := true }
def HistoryKeepsUptoSaid : Prop := historyKeepsUptoRow.holds Try.pinned (OpenSpec.upto historyKeepsSpec)

/-- 'flywheellaw14.HistoryTells', WHERE WHAT IT READS IS OF BULK AT MOST 1048576: true; the input reads as it did. -/
def historyTellsUptoRow : OpenClaim := { program := "ytildjnibdappnaa", sum := "bb54e7dba25cb32c65b45adc322b66d364be06b4be8f0225175d44721b957100", func := "flywheel/flywheellaw14.HistoryTells", spec := "historyTells", unfollowed := true, recurses := true, apart := false, narrowed := true }
def HistoryTellsUptoSaid : Prop := historyTellsUptoRow.holds Try.pinned (OpenSpec.upto historyTellsSpec)

/-- 'flywheellaw16.DecideFollows', WHERE WHAT IT READS IS OF BULK AT MOST 1048576: true; the input reads as it did. -/
def decideFollowsUptoRow : OpenClaim := { program := "ytildjnibdappnaa", sum := "bb54e7dba25cb32c65b45adc322b66d364be06b4be8f0225175d44721b957100", func := "flywheel/flywheellaw16.DecideFollows", spec := "decideFollows", inPlace := ["slices.overlaps[flywheel/api.Sample]"], unfollowed := true, recurses := true, apart := false, narrowed := true }
def DecideFollowsUptoSaid : Prop := decideFollowsUptoRow.holds Try.pinned (OpenSpec.upto decideFollowsSpec)

/-- 'flywheellaw48.AuditChecks', WHERE WHAT IT READS IS OF BULK AT MOST 1048576: true; the input reads as it did. -/
def auditChecksUptoRow : OpenClaim := { program := "ytildjnibdappnaa", sum := "bb54e7dba25cb32c65b45adc322b66d364be06b4be8f0225175d44721b957100", func := "flywheel/flywheellaw48.AuditChecks", spec := "auditChecks", unfollowed := true, recurses := true, apart := false, narrowed := true }
def AuditChecksUptoSaid : Prop := auditChecksUptoRow.holds Try.pinned (OpenSpec.upto auditChecksSpec)

/-- 'flywheellaw48.AuditFine', WHERE WHAT IT READS IS OF BULK AT MOST 1048576: true; the input reads as it did. -/
def auditFineUptoRow : OpenClaim := { program := "ytildjnibdappnaa", sum := "bb54e7dba25cb32c65b45adc322b66d364be06b4be8f0225175d44721b957100", func := "flywheel/flywheellaw48.AuditFine", spec := "auditFine", inPlace := ["slices.overlaps[flywheel/api.Sample]"], unfollowed := true, recurses := true, apart := false, narrowed := true }
def AuditFineUptoSaid : Prop := auditFineUptoRow.holds Try.pinned (OpenSpec.upto auditFineSpec)

/-- 'flywheellaw45.TuneWith', WHERE WHAT IT READS IS OF BULK AT MOST 1048576: true; the input reads as it did. -/
def tuneWithUptoRow : OpenClaim := { program := "ytildjnibdappnaa", sum := "bb54e7dba25cb32c65b45adc322b66d364be06b4be8f0225175d44721b957100", func := "flywheel/flywheellaw45.TuneWith", spec := "tuneWith", apart := false, narrowed := true }
def TuneWithUptoSaid : Prop := tuneWithUptoRow.holds Try.pinned (OpenSpec.upto tuneWithSpec)

/-- 'flywheellaw51.BudgetShares', WHERE WHAT IT READS IS OF BULK AT MOST 1048576: true; the input reads as it did. -/
def budgetSharesUptoRow : OpenClaim := { program := "ytildjnibdappnaa", sum := "bb54e7dba25cb32c65b45adc322b66d364be06b4be8f0225175d44721b957100", func := "flywheel/flywheellaw51.BudgetShares", spec := "budgetShares", unfollowed := true, recurses := true, apart := false, narrowed := true }
def BudgetSharesUptoSaid : Prop := budgetSharesUptoRow.holds Try.pinned (OpenSpec.upto budgetSharesSpec)

/-- 'flywheellaw51.BudgetFair', WHERE WHAT IT READS IS OF BULK AT MOST 1048576: true; the input reads as it did. -/
def budgetFairUptoRow : OpenClaim := { program := "ytildjnibdappnaa", sum := "bb54e7dba25cb32c65b45adc322b66d364be06b4be8f0225175d44721b957100", func := "flywheel/flywheellaw51.BudgetFair", spec := "budgetFair", unfollowed := true, recurses := true, apart := false, narrowed := true }
def BudgetFairUptoSaid : Prop := budgetFairUptoRow.holds Try.pinned (OpenSpec.upto budgetFairSpec)

/-- 'flywheellaw51.BudgetFits', WHERE WHAT IT READS IS OF BULK AT MOST 1048576: true; the input reads as it did. -/
def budgetFitsUptoRow : OpenClaim := { program := "ytildjnibdappnaa", sum := "bb54e7dba25cb32c65b45adc322b66d364be06b4be8f0225175d44721b957100", func := "flywheel/flywheellaw51.BudgetFits", spec := "budgetFits", unfollowed := true, recurses := true, apart := false, narrowed := true }
def BudgetFitsUptoSaid : Prop := budgetFitsUptoRow.holds Try.pinned (OpenSpec.upto budgetFitsSpec)

end Rows
end Go.Proofs.Ytildjnibdappnaa
