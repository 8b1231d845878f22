/-
  No cell of these rows narrows 'for every input' (looked for: loops, veiled, ifaces, maps, wideKeys, modest, calm, conditions, laid).
  DERIVED. THE GIVEN ROWS OF THIS SEAT. 6 by the template 'for every input the law returns true; each argument reads behind the call as it read before'; 0 by the template 'total and deterministic' (their statements: YtimocipgikefoaaTotals.lean).
  GIVEN WITH THE SEED: the statements are not yours to turn. If you find one false, say at which input.
  Laid BY PROGRAM, IN A SANDBOX (cutbox-rows.mjs): the forced cells as the released guide's own fill.sh prints them over the translation 1ae3924f7f5071d2… (all of the seat's roots in one cut). By AI agents, Wed Nov 11 2026. No macro, syntax, notation, axiom, sorry.
-/
import Derived.Test.YtimocipgikefoaaChecked
import GoSem.Claim
import GoSem.ClaimJoined
import GoSem.ClaimMapViews
import Derived.JoinedTies
import Derived.KernelRfl
namespace Go.Proofs.Ytimocipgikefoaa
/- THE CELL 'sum', in the pinned program and in every row, IS THE sha256 OF THE DUMP (.gsa) THAT YtimocipgikefoaaProg.lean LOADS. Nothing in Lean hashes anything: it is a label: what it is worth is what the hold of that sum in a sandbox is worth. -/
noncomputable def Try.pinned : Pinned := { name := "ytimocipgikefoaa", sum := "1ae3924f7f5071d2b46cebe7f2a399dfb35aa3735dff4da4ada1c2c4f4b5b93e", checked := Try.checked }
namespace Rows
def none {H : Type} : Left H := { results := [], args := [] }

/-- 'laws.FnPath': WHATEVER THE INPUT: true; the input reads as it did. -/
def fnPathSpec : ChangeSpec := { name := "fnPath", fn := fun _ => fun
  | [d1, d2] => { results := [.lit (.bool true)], args := [d1, d2] }
  | _ => none }
def fnPathRow : OpenClaim := { program := "ytimocipgikefoaa", sum := "1ae3924f7f5071d2b46cebe7f2a399dfb35aa3735dff4da4ada1c2c4f4b5b93e", func := "loop.example/g00556/laws.FnPath", spec := "fnPath", apart := false }
def FnPathSaid : Prop := fnPathRow.holds Try.pinned (OpenSpec.ofChange fnPathSpec)

/-- ITS FALSE NEIGHBOUR: 'it returns false'. Refute it at one input. -/
def fnPathWrong : ChangeSpec := { name := "fnPath", fn := fun _ => fun
  | [d1, d2] => { results := [.lit (.bool false)], args := [d1, d2] }
  | _ => none }
def FnPathWrongFalsely : Prop := fnPathRow.holds Try.pinned (OpenSpec.ofChange fnPathWrong)

/-- 'laws.FnExactSegmentNew': WHATEVER THE INPUT: true; the input reads as it did. -/
def fnExactSegmentNewSpec : ChangeSpec := { name := "fnExactSegmentNew", fn := fun _ => fun
  | [d] => { results := [.lit (.bool true)], args := [d] }
  | _ => none }
def fnExactSegmentNewRow : OpenClaim := { program := "ytimocipgikefoaa", sum := "1ae3924f7f5071d2b46cebe7f2a399dfb35aa3735dff4da4ada1c2c4f4b5b93e", func := "loop.example/g00556/laws.FnExactSegmentNew", spec := "fnExactSegmentNew", unfollowed := true, recurses := true, apart := false }
def FnExactSegmentNewSaid : Prop := fnExactSegmentNewRow.holds Try.pinned (OpenSpec.ofChange fnExactSegmentNewSpec)

/-- ITS FALSE NEIGHBOUR: 'it returns false'. Refute it at one input. -/
def fnExactSegmentNewWrong : ChangeSpec := { name := "fnExactSegmentNew", fn := fun _ => fun
  | [d] => { results := [.lit (.bool false)], args := [d] }
  | _ => none }
def FnExactSegmentNewWrongFalsely : Prop := fnExactSegmentNewRow.holds Try.pinned (OpenSpec.ofChange fnExactSegmentNewWrong)

/-- 'laws.FnExactPathRight': WHATEVER THE INPUT: true; the input reads as it did. -/
def fnExactPathRightSpec : ChangeSpec := { name := "fnExactPathRight", fn := fun _ => fun
  | [d] => { results := [.lit (.bool true)], args := [d] }
  | _ => none }
def fnExactPathRightRow : OpenClaim := { program := "ytimocipgikefoaa", sum := "1ae3924f7f5071d2b46cebe7f2a399dfb35aa3735dff4da4ada1c2c4f4b5b93e", func := "loop.example/g00556/laws.FnExactPathRight", spec := "fnExactPathRight", apart := false }
def FnExactPathRightSaid : Prop := fnExactPathRightRow.holds Try.pinned (OpenSpec.ofChange fnExactPathRightSpec)

/-- ITS FALSE NEIGHBOUR: 'it returns false'. Refute it at one input. -/
def fnExactPathRightWrong : ChangeSpec := { name := "fnExactPathRight", fn := fun _ => fun
  | [d] => { results := [.lit (.bool false)], args := [d] }
  | _ => none }
def FnExactPathRightWrongFalsely : Prop := fnExactPathRightRow.holds Try.pinned (OpenSpec.ofChange fnExactPathRightWrong)

/-- 'laws.FnExactPathNew': WHATEVER THE INPUT: true; the input reads as it did. -/
def fnExactPathNewSpec : ChangeSpec := { name := "fnExactPathNew", fn := fun _ => fun
  | [d] => { results := [.lit (.bool true)], args := [d] }
  | _ => none }
def fnExactPathNewRow : OpenClaim := { program := "ytimocipgikefoaa", sum := "1ae3924f7f5071d2b46cebe7f2a399dfb35aa3735dff4da4ada1c2c4f4b5b93e", func := "loop.example/g00556/laws.FnExactPathNew", spec := "fnExactPathNew", apart := false }
def FnExactPathNewSaid : Prop := fnExactPathNewRow.holds Try.pinned (OpenSpec.ofChange fnExactPathNewSpec)

/-- ITS FALSE NEIGHBOUR: 'it returns false'. Refute it at one input. -/
def fnExactPathNewWrong : ChangeSpec := { name := "fnExactPathNew", fn := fun _ => fun
  | [d] => { results := [.lit (.bool false)], args := [d] }
  | _ => none }
def FnExactPathNewWrongFalsely : Prop := fnExactPathNewRow.holds Try.pinned (OpenSpec.ofChange fnExactPathNewWrong)

/-- 'laws.FnExactPathStep': WHATEVER THE INPUT: true; the input reads as it did. -/
def fnExactPathStepSpec : ChangeSpec := { name := "fnExactPathStep", fn := fun _ => fun
  | [d1, d2] => { results := [.lit (.bool true)], args := [d1, d2] }
  | _ => none }
def fnExactPathStepRow : OpenClaim := { program := "ytimocipgikefoaa", sum := "1ae3924f7f5071d2b46cebe7f2a399dfb35aa3735dff4da4ada1c2c4f4b5b93e", func := "loop.example/g00556/laws.FnExactPathStep", spec := "fnExactPathStep", apart := false }
def FnExactPathStepSaid : Prop := fnExactPathStepRow.holds Try.pinned (OpenSpec.ofChange fnExactPathStepSpec)

/-- ITS FALSE NEIGHBOUR: 'it returns false'. Refute it at one input. -/
def fnExactPathStepWrong : ChangeSpec := { name := "fnExactPathStep", fn := fun _ => fun
  | [d1, d2] => { results := [.lit (.bool false)], args := [d1, d2] }
  | _ => none }
def FnExactPathStepWrongFalsely : Prop := fnExactPathStepRow.holds Try.pinned (OpenSpec.ofChange fnExactPathStepWrong)

/-- 'laws.FnExactPathHome': WHATEVER THE INPUT: true; the input reads as it did. -/
def fnExactPathHomeSpec : ChangeSpec := { name := "fnExactPathHome", fn := fun _ => fun
  | [d] => { results := [.lit (.bool true)], args := [d] }
  | _ => none }
def fnExactPathHomeRow : OpenClaim := { program := "ytimocipgikefoaa", sum := "1ae3924f7f5071d2b46cebe7f2a399dfb35aa3735dff4da4ada1c2c4f4b5b93e", func := "loop.example/g00556/laws.FnExactPathHome", spec := "fnExactPathHome", apart := false }
def FnExactPathHomeSaid : Prop := fnExactPathHomeRow.holds Try.pinned (OpenSpec.ofChange fnExactPathHomeSpec)

/-- ITS FALSE NEIGHBOUR: 'it returns false'. Refute it at one input. -/
def fnExactPathHomeWrong : ChangeSpec := { name := "fnExactPathHome", fn := fun _ => fun
  | [d] => { results := [.lit (.bool false)], args := [d] }
  | _ => none }
def FnExactPathHomeWrongFalsely : Prop := fnExactPathHomeRow.holds Try.pinned (OpenSpec.ofChange fnExactPathHomeWrong)

/- THE SECOND FORM. 'bulk': how many values and letters a reading holds, each counted each time it is reached (what is shared counts as often as it is met; a slice's spare places count too). A statement '..UptoSaid' is the law's where the arguments, and the package variables that the reading takes, are together of bulk at most 1048576: NARROWER than '..Said'. Prove '..Said' where nothing that the law and all that it calls make is longer than what came in: it says more and counts as full. Else prove '..UptoSaid'. A law counts once. -/
mutual
def uptoBulk {H : Type} : DataW H → Nat
  | .lit (.string bytes) => bytes.length + 1
  | .lit _ => 1
  | .nil => 1
  | .ptr d => uptoBulk d + 1
  | .slice elems spare => uptoBulkAll elems + uptoBulkAll spare + 1
  | .agg parts => uptoBulkAll parts + 1
  | .iface _ d => uptoBulk d + 1
  | .map entries => uptoBulkEntries entries + 1
  | .held _ => 1
def uptoBulkAll {H : Type} : List (DataW H) → Nat
  | [] => 0
  | d :: r => uptoBulk d + uptoBulkAll r
def uptoBulkEntries {H : Type} : List (Lit × DataW H) → Nat
  | [] => 0
  | x :: r => uptoBulkEntry x + uptoBulkEntries r
def uptoBulkEntry {H : Type} : Lit × DataW H → Nat
  | (.string bytes, d) => bytes.length + uptoBulk d + 1
  | (_, d) => uptoBulk d + 1
 end
def uptoSmall : (H : Type) → List (DataW H) → Bool := fun _ ds => decide (uptoBulkAll ds ≤ 1048576)
def OpenSpec.upto (s : _root_.Go.ChangeSpec) : _root_.Go.OpenSpec := { _root_.Go.OpenSpec.ofChange s with cond := some uptoSmall }

/-- 'laws.FnPath', WHERE WHAT IT READS IS OF BULK AT MOST 1048576: true; the input reads as it did. -/
def fnPathUptoRow : OpenClaim := { program := "ytimocipgikefoaa", sum := "1ae3924f7f5071d2b46cebe7f2a399dfb35aa3735dff4da4ada1c2c4f4b5b93e", func := "loop.example/g00556/laws.FnPath", spec := "fnPath", apart := false, narrowed := true }
def FnPathUptoSaid : Prop := fnPathUptoRow.holds Try.pinned (OpenSpec.upto fnPathSpec)

/-- 'laws.FnExactSegmentNew', WHERE WHAT IT READS IS OF BULK AT MOST 1048576: true; the input reads as it did. -/
def fnExactSegmentNewUptoRow : OpenClaim := { program := "ytimocipgikefoaa", sum := "1ae3924f7f5071d2b46cebe7f2a399dfb35aa3735dff4da4ada1c2c4f4b5b93e", func := "loop.example/g00556/laws.FnExactSegmentNew", spec := "fnExactSegmentNew", unfollowed := true, recurses := true, apart := false, narrowed := true }
def FnExactSegmentNewUptoSaid : Prop := fnExactSegmentNewUptoRow.holds Try.pinned (OpenSpec.upto fnExactSegmentNewSpec)

/-- 'laws.FnExactPathRight', WHERE WHAT IT READS IS OF BULK AT MOST 1048576: true; the input reads as it did. -/
def fnExactPathRightUptoRow : OpenClaim := { program := "ytimocipgikefoaa", sum := "1ae3924f7f5071d2b46cebe7f2a399dfb35aa3735dff4da4ada1c2c4f4b5b93e", func := "loop.example/g00556/laws.FnExactPathRight", spec := "fnExactPathRight", apart := false, narrowed := true }
def FnExactPathRightUptoSaid : Prop := fnExactPathRightUptoRow.holds Try.pinned (OpenSpec.upto fnExactPathRightSpec)

/-- 'laws.FnExactPathNew', WHERE WHAT IT READS IS OF BULK AT MOST 1048576: true; the input reads as it did. -/
def fnExactPathNewUptoRow : OpenClaim := { program := "ytimocipgikefoaa", sum := "1ae3924f7f5071d2b46cebe7f2a399dfb35aa3735dff4da4ada1c2c4f4b5b93e", func := "loop.example/g00556/laws.FnExactPathNew", spec := "fnExactPathNew", apart := false, narrowed := true }
def FnExactPathNewUptoSaid : Prop := fnExactPathNewUptoRow.holds Try.pinned (OpenSpec.upto fnExactPathNewSpec)

/-- 'laws.FnExactPathStep', WHERE WHAT IT READS IS OF BULK AT MOST 1048576: true; the input reads as it did. -/
def fnExactPathStepUptoRow : OpenClaim := { program := "ytimocipgikefoaa", sum := "1ae3924f7f5071d2b46cebe7f2a399dfb35aa3735dff4da4ada1c2c4f4b5b93e", func := "loop.example/g00556/laws.FnExactPathStep", spec := "fnExactPathStep", apart := false, narrowed := true }
def FnExactPathStepUptoSaid : Prop := fnExactPathStepUptoRow.holds Try.pinned (OpenSpec.upto fnExactPathStepSpec)

/-- 'laws.FnExactPathHome', WHERE WHAT IT READS IS OF BULK AT MOST 1048576: true; the input reads as it did. -/
def fnExactPathHomeUptoRow : OpenClaim := { program := "ytimocipgikefoaa", sum := "1ae3924f7f5071d2b46cebe7f2a399dfb35aa3735dff4da4ada1c2c4f4b5b93e", func := "loop.example/g00556/laws.FnExactPathHome", spec := "fnExactPathHome", apart := false, narrowed := true }
def FnExactPathHomeUptoSaid : Prop := fnExactPathHomeUptoRow.holds Try.pinned (OpenSpec.upto fnExactPathHomeSpec)

end Rows
end Go.Proofs.Ytimocipgikefoaa
