/-
  No cell of these rows narrows 'for every input' (looked for: loops, veiled, ifaces, maps, wideKeys, modest, calm, conditions, laid).
  DERIVED. THE GIVEN ROWS OF THIS SEAT. 4 by the template 'for every input the law returns true; each argument reads behind the call as it read before'; 0 by the template 'total and deterministic' (their statements: YtklpaleghanhhaaTotals.lean).
  GIVEN WITH THE SEED: the statements are not yours to turn. If you find one false, say at which input.
  Laid BY PROGRAM, IN A SANDBOX (cutbox-rows.mjs): the forced cells as the released guide's own fill.sh prints them over the translation af060775509cb21b… (all of the seat's roots in one cut). By AI agents, Wed Nov 11 2026. No macro, syntax, notation, axiom, sorry.
-/
import Derived.Test.YtklpaleghanhhaaChecked
import GoSem.Claim
import GoSem.ClaimJoined
import GoSem.ClaimMapViews
import Derived.JoinedTies
import Derived.KernelRfl
namespace Go.Proofs.Ytklpaleghanhhaa
/- THE CELL 'sum', in the pinned program and in every row, IS THE sha256 OF THE DUMP (.gsa) THAT YtklpaleghanhhaaProg.lean LOADS. Nothing in Lean hashes anything: it is a label: what it is worth is what the hold of that sum in a sandbox is worth. -/
noncomputable def Try.pinned : Pinned := { name := "ytklpaleghanhhaa", sum := "af060775509cb21b6b768495ae45ac8061a2bb8224d6d455f404bd2db7c3164e", checked := Try.checked }
namespace Rows
def none {H : Type} : Left H := { results := [], args := [] }

/-- 'laws.FnExactIssue': WHATEVER THE INPUT: true; the input reads as it did. -/
def fnExactIssueSpec : ChangeSpec := { name := "fnExactIssue", fn := fun _ => fun
  | [d1, d2] => { results := [.lit (.bool true)], args := [d1, d2] }
  | _ => none }
def fnExactIssueRow : OpenClaim := { program := "ytklpaleghanhhaa", sum := "af060775509cb21b6b768495ae45ac8061a2bb8224d6d455f404bd2db7c3164e", func := "loop.example/g00556/laws.FnExactIssue", spec := "fnExactIssue", unfollowed := true, recurses := true, apart := false }
def FnExactIssueSaid : Prop := fnExactIssueRow.holds Try.pinned (OpenSpec.ofChange fnExactIssueSpec)

/-- ITS FALSE NEIGHBOUR: 'it returns false'. Refute it at one input. -/
def fnExactIssueWrong : ChangeSpec := { name := "fnExactIssue", fn := fun _ => fun
  | [d1, d2] => { results := [.lit (.bool false)], args := [d1, d2] }
  | _ => none }
def FnExactIssueWrongFalsely : Prop := fnExactIssueRow.holds Try.pinned (OpenSpec.ofChange fnExactIssueWrong)

/-- 'laws.FnExactMasterTick': WHATEVER THE INPUT: true; the input reads as it did. -/
def fnExactMasterTickSpec : ChangeSpec := { name := "fnExactMasterTick", fn := fun _ => fun
  | [d] => { results := [.lit (.bool true)], args := [d] }
  | _ => none }
def fnExactMasterTickRow : OpenClaim := { program := "ytklpaleghanhhaa", sum := "af060775509cb21b6b768495ae45ac8061a2bb8224d6d455f404bd2db7c3164e", func := "loop.example/g00556/laws.FnExactMasterTick", spec := "fnExactMasterTick", unfollowed := true, recurses := true, apart := false }
def FnExactMasterTickSaid : Prop := fnExactMasterTickRow.holds Try.pinned (OpenSpec.ofChange fnExactMasterTickSpec)

/-- ITS FALSE NEIGHBOUR: 'it returns false'. Refute it at one input. -/
def fnExactMasterTickWrong : ChangeSpec := { name := "fnExactMasterTick", fn := fun _ => fun
  | [d] => { results := [.lit (.bool false)], args := [d] }
  | _ => none }
def FnExactMasterTickWrongFalsely : Prop := fnExactMasterTickRow.holds Try.pinned (OpenSpec.ofChange fnExactMasterTickWrong)

/-- 'laws.FnExactMasterTake': WHATEVER THE INPUT: true; the input reads as it did. -/
def fnExactMasterTakeSpec : ChangeSpec := { name := "fnExactMasterTake", fn := fun _ => fun
  | [d1, d2] => { results := [.lit (.bool true)], args := [d1, d2] }
  | _ => none }
def fnExactMasterTakeRow : OpenClaim := { program := "ytklpaleghanhhaa", sum := "af060775509cb21b6b768495ae45ac8061a2bb8224d6d455f404bd2db7c3164e", func := "loop.example/g00556/laws.FnExactMasterTake", spec := "fnExactMasterTake", unfollowed := true, recurses := true, apart := false }
def FnExactMasterTakeSaid : Prop := fnExactMasterTakeRow.holds Try.pinned (OpenSpec.ofChange fnExactMasterTakeSpec)

/-- ITS FALSE NEIGHBOUR: 'it returns false'. Refute it at one input. -/
def fnExactMasterTakeWrong : ChangeSpec := { name := "fnExactMasterTake", fn := fun _ => fun
  | [d1, d2] => { results := [.lit (.bool false)], args := [d1, d2] }
  | _ => none }
def FnExactMasterTakeWrongFalsely : Prop := fnExactMasterTakeRow.holds Try.pinned (OpenSpec.ofChange fnExactMasterTakeWrong)

/-- 'laws.FnExactDeskSegment': WHATEVER THE INPUT: true; the input reads as it did. -/
def fnExactDeskSegmentSpec : ChangeSpec := { name := "fnExactDeskSegment", fn := fun _ => fun
  | [] => { results := [.lit (.bool true)], args := [] }
  | _ => none }
def fnExactDeskSegmentRow : OpenClaim := { program := "ytklpaleghanhhaa", sum := "af060775509cb21b6b768495ae45ac8061a2bb8224d6d455f404bd2db7c3164e", func := "loop.example/g00556/laws.FnExactDeskSegment", spec := "fnExactDeskSegment", unfollowed := true, recurses := true, apart := false }
def FnExactDeskSegmentSaid : Prop := fnExactDeskSegmentRow.holds Try.pinned (OpenSpec.ofChange fnExactDeskSegmentSpec)

/-- ITS FALSE NEIGHBOUR: 'it returns false'. Refute it at one input. -/
def fnExactDeskSegmentWrong : ChangeSpec := { name := "fnExactDeskSegment", fn := fun _ => fun
  | [] => { results := [.lit (.bool false)], args := [] }
  | _ => none }
def FnExactDeskSegmentWrongFalsely : Prop := fnExactDeskSegmentRow.holds Try.pinned (OpenSpec.ofChange fnExactDeskSegmentWrong)

/- THE SECOND FORM. 'bulk': how many values and letters a reading holds, each counted each time it is reached (what is shared counts as often as it is met; a slice's spare places count too). A statement '..UptoSaid' is the law's where the arguments, and the package variables that the reading takes, are together of bulk at most 1048576: NARROWER than '..Said'. Prove '..Said' where nothing that the law and all that it calls make is longer than what came in: it says more and counts as full. Else prove '..UptoSaid'. A law counts once. -/
mutual
def uptoBulk {H : Type} : DataW H → Nat
  | .lit (.string bytes) => bytes.length + 1
  | .lit _ => 1
  | .nil => 1
  | .ptr d => uptoBulk d + 1
  | .slice elems spare => uptoBulkAll elems + uptoBulkAll spare + 1
  | .agg parts => uptoBulkAll parts + 1
  | .iface _ d => uptoBulk d + 1
  | .map entries => uptoBulkEntries entries + 1
  | .held _ => 1
def uptoBulkAll {H : Type} : List (DataW H) → Nat
  | [] => 0
  | d :: r => uptoBulk d + uptoBulkAll r
def uptoBulkEntries {H : Type} : List (Lit × DataW H) → Nat
  | [] => 0
  | x :: r => uptoBulkEntry x + uptoBulkEntries r
def uptoBulkEntry {H : Type} : Lit × DataW H → Nat
  | (.string bytes, d) => bytes.length + uptoBulk d + 1
  | (_, d) => uptoBulk d + 1
 end
def uptoSmall : (H : Type) → List (DataW H) → Bool := fun _ ds => decide (uptoBulkAll ds ≤ 1048576)
def OpenSpec.upto (s : _root_.Go.ChangeSpec) : _root_.Go.OpenSpec := { _root_.Go.OpenSpec.ofChange s with cond := some uptoSmall }

/-- 'laws.FnExactIssue', WHERE WHAT IT READS IS OF BULK AT MOST 1048576: true; the input reads as it did. -/
def fnExactIssueUptoRow : OpenClaim := { program := "ytklpaleghanhhaa", sum := "af060775509cb21b6b768495ae45ac8061a2bb8224d6d455f404bd2db7c3164e", func := "loop.example/g00556/laws.FnExactIssue", spec := "fnExactIssue", unfollowed := true, recurses := true, apart := false, narrowed := true }
def FnExactIssueUptoSaid : Prop := fnExactIssueUptoRow.holds Try.pinned (OpenSpec.upto fnExactIssueSpec)

/-- 'laws.FnExactMasterTick', WHERE WHAT IT READS IS OF BULK AT MOST 1048576: true; the input reads as it did. -/
def fnExactMasterTickUptoRow : OpenClaim := { program := "ytklpaleghanhhaa", sum := "af060775509cb21b6b768495ae45ac8061a2bb8224d6d455f404bd2db7c3164e", func := "loop.example/g00556/laws.FnExactMasterTick", spec := "fnExactMasterTick", unfollowed := true, recurses := true, apart := false, narrowed := true }
def FnExactMasterTickUptoSaid : Prop := fnExactMasterTickUptoRow.holds Try.pinned (OpenSpec.upto fnExactMasterTickSpec)

/-- 'laws.FnExactMasterTake', WHERE WHAT IT READS IS OF BULK AT MOST 1048576: true; the input reads as it did. -/
def fnExactMasterTakeUptoRow : OpenClaim := { program := "ytklpaleghanhhaa", sum := "af060775509cb21b6b768495ae45ac8061a2bb8224d6d455f404bd2db7c3164e", func := "loop.example/g00556/laws.FnExactMasterTake", spec := "fnExactMasterTake", unfollowed := true, recurses := true, apart := false, narrowed := true }
def FnExactMasterTakeUptoSaid : Prop := fnExactMasterTakeUptoRow.holds Try.pinned (OpenSpec.upto fnExactMasterTakeSpec)

/-- 'laws.FnExactDeskSegment', WHERE WHAT IT READS IS OF BULK AT MOST 1048576: true; the input reads as it did. -/
def fnExactDeskSegmentUptoRow : OpenClaim := { program := "ytklpaleghanhhaa", sum := "af060775509cb21b6b768495ae45ac8061a2bb8224d6d455f404bd2db7c3164e", func := "loop.example/g00556/laws.FnExactDeskSegment", spec := "fnExactDeskSegment", unfollowed := true, recurses := true, apart := false, narrowed := true }
def FnExactDeskSegmentUptoSaid : Prop := fnExactDeskSegmentUptoRow.holds Try.pinned (OpenSpec.upto fnExactDeskSegmentSpec)

end Rows
end Go.Proofs.Ytklpaleghanhhaa
