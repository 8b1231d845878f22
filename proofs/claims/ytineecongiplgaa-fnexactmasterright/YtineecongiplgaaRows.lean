/-
  No cell of these rows narrows 'for every input' (looked for: loops, veiled, ifaces, maps, wideKeys, modest, calm, conditions, laid).
  DERIVED. THE GIVEN ROWS OF THIS SEAT. 4 by the template 'for every input the law returns true; each argument reads behind the call as it read before'; 0 by the template 'total and deterministic' (their statements: YtineecongiplgaaTotals.lean).
  GIVEN WITH THE SEED: the statements are not yours to turn. If you find one false, say at which input.
  Laid BY PROGRAM, IN A SANDBOX (cutbox-rows.mjs): the forced cells as the released guide's own fill.sh prints them over the translation 093b2a31e081c92c… (all of the seat's roots in one cut). By AI agents, Wed Nov 11 2026. No macro, syntax, notation, axiom, sorry.
-/
import Derived.Test.YtineecongiplgaaChecked
import GoSem.Claim
import GoSem.ClaimJoined
import GoSem.ClaimMapViews
import Derived.JoinedTies
import Derived.KernelRfl
namespace Go.Proofs.Ytineecongiplgaa
/- THE CELL 'sum', in the pinned program and in every row, IS THE sha256 OF THE DUMP (.gsa) THAT YtineecongiplgaaProg.lean LOADS. Nothing in Lean hashes anything: it is a label: what it is worth is what the hold of that sum in a sandbox is worth. -/
noncomputable def Try.pinned : Pinned := { name := "ytineecongiplgaa", sum := "093b2a31e081c92caee16fd6ecb383eef9b12b8104aef193f4805024c7d6af76", checked := Try.checked }
namespace Rows
def none {H : Type} : Left H := { results := [], args := [] }

/-- 'laws.FnPath': WHATEVER THE INPUT: true; the input reads as it did. -/
def fnPathSpec : ChangeSpec := { name := "fnPath", fn := fun _ => fun
  | [d1, d2] => { results := [.lit (.bool true)], args := [d1, d2] }
  | _ => none }
def fnPathRow : OpenClaim := { program := "ytineecongiplgaa", sum := "093b2a31e081c92caee16fd6ecb383eef9b12b8104aef193f4805024c7d6af76", func := "loop.example/g00556/laws.FnPath", spec := "fnPath", apart := false }
def FnPathSaid : Prop := fnPathRow.holds Try.pinned (OpenSpec.ofChange fnPathSpec)

/-- ITS FALSE NEIGHBOUR: 'it returns false'. Refute it at one input. -/
def fnPathWrong : ChangeSpec := { name := "fnPath", fn := fun _ => fun
  | [d1, d2] => { results := [.lit (.bool false)], args := [d1, d2] }
  | _ => none }
def FnPathWrongFalsely : Prop := fnPathRow.holds Try.pinned (OpenSpec.ofChange fnPathWrong)

/-- 'laws.FnExactMasterRight': WHATEVER THE INPUT: true; the input reads as it did. -/
def fnExactMasterRightSpec : ChangeSpec := { name := "fnExactMasterRight", fn := fun _ => fun
  | [d] => { results := [.lit (.bool true)], args := [d] }
  | _ => none }
def fnExactMasterRightRow : OpenClaim := { program := "ytineecongiplgaa", sum := "093b2a31e081c92caee16fd6ecb383eef9b12b8104aef193f4805024c7d6af76", func := "loop.example/g00556/laws.FnExactMasterRight", spec := "fnExactMasterRight", unfollowed := true, recurses := true, apart := false }
def FnExactMasterRightSaid : Prop := fnExactMasterRightRow.holds Try.pinned (OpenSpec.ofChange fnExactMasterRightSpec)

/-- ITS FALSE NEIGHBOUR: 'it returns false'. Refute it at one input. -/
def fnExactMasterRightWrong : ChangeSpec := { name := "fnExactMasterRight", fn := fun _ => fun
  | [d] => { results := [.lit (.bool false)], args := [d] }
  | _ => none }
def FnExactMasterRightWrongFalsely : Prop := fnExactMasterRightRow.holds Try.pinned (OpenSpec.ofChange fnExactMasterRightWrong)

/-- 'laws.FnExactSlaveRight': WHATEVER THE INPUT: true; the input reads as it did. -/
def fnExactSlaveRightSpec : ChangeSpec := { name := "fnExactSlaveRight", fn := fun _ => fun
  | [d] => { results := [.lit (.bool true)], args := [d] }
  | _ => none }
def fnExactSlaveRightRow : OpenClaim := { program := "ytineecongiplgaa", sum := "093b2a31e081c92caee16fd6ecb383eef9b12b8104aef193f4805024c7d6af76", func := "loop.example/g00556/laws.FnExactSlaveRight", spec := "fnExactSlaveRight", apart := false }
def FnExactSlaveRightSaid : Prop := fnExactSlaveRightRow.holds Try.pinned (OpenSpec.ofChange fnExactSlaveRightSpec)

/-- ITS FALSE NEIGHBOUR: 'it returns false'. Refute it at one input. -/
def fnExactSlaveRightWrong : ChangeSpec := { name := "fnExactSlaveRight", fn := fun _ => fun
  | [d] => { results := [.lit (.bool false)], args := [d] }
  | _ => none }
def FnExactSlaveRightWrongFalsely : Prop := fnExactSlaveRightRow.holds Try.pinned (OpenSpec.ofChange fnExactSlaveRightWrong)

/-- 'laws.FnExactLetterOf': WHATEVER THE INPUT: true; the input reads as it did. -/
def fnExactLetterOfSpec : ChangeSpec := { name := "fnExactLetterOf", fn := fun _ => fun
  | [d1, d2] => { results := [.lit (.bool true)], args := [d1, d2] }
  | _ => none }
def fnExactLetterOfRow : OpenClaim := { program := "ytineecongiplgaa", sum := "093b2a31e081c92caee16fd6ecb383eef9b12b8104aef193f4805024c7d6af76", func := "loop.example/g00556/laws.FnExactLetterOf", spec := "fnExactLetterOf", apart := false }
def FnExactLetterOfSaid : Prop := fnExactLetterOfRow.holds Try.pinned (OpenSpec.ofChange fnExactLetterOfSpec)

/-- ITS FALSE NEIGHBOUR: 'it returns false'. Refute it at one input. -/
def fnExactLetterOfWrong : ChangeSpec := { name := "fnExactLetterOf", fn := fun _ => fun
  | [d1, d2] => { results := [.lit (.bool false)], args := [d1, d2] }
  | _ => none }
def FnExactLetterOfWrongFalsely : Prop := fnExactLetterOfRow.holds Try.pinned (OpenSpec.ofChange fnExactLetterOfWrong)

/- THE SECOND FORM. 'bulk': how many values and letters a reading holds, each counted each time it is reached (what is shared counts as often as it is met; a slice's spare places count too). A statement '..UptoSaid' is the law's where the arguments, and the package variables that the reading takes, are together of bulk at most 1048576: NARROWER than '..Said'. Prove '..Said' where nothing that the law and all that it calls make is longer than what came in: it says more and counts as full. Else prove '..UptoSaid'. A law counts once. -/
mutual
def uptoBulk {H : Type} : DataW H → Nat
  | .lit (.string bytes) => bytes.length + 1
  | .lit _ => 1
  | .nil => 1
  | .ptr d => uptoBulk d + 1
  | .slice elems spare => uptoBulkAll elems + uptoBulkAll spare + 1
  | .agg parts => uptoBulkAll parts + 1
  | .iface _ d => uptoBulk d + 1
  | .map entries => uptoBulkEntries entries + 1
  | .held _ => 1
def uptoBulkAll {H : Type} : List (DataW H) → Nat
  | [] => 0
  | d :: r => uptoBulk d + uptoBulkAll r
def uptoBulkEntries {H : Type} : List (Lit × DataW H) → Nat
  | [] => 0
  | x :: r => uptoBulkEntry x + uptoBulkEntries r
def uptoBulkEntry {H : Type} : Lit × DataW H → Nat
  | (.string bytes, d) => bytes.length + uptoBulk d + 1
  | (_, d) => uptoBulk d + 1
 end
def uptoSmall : (H : Type) → List (DataW H) → Bool := fun _ ds => decide (uptoBulkAll ds ≤ 1048576)
def OpenSpec.upto (s : _root_.Go.ChangeSpec) : _root_.Go.OpenSpec := { _root_.Go.OpenSpec.ofChange s with cond := some uptoSmall }

/-- 'laws.FnPath', WHERE WHAT IT READS IS OF BULK AT MOST 1048576: true; the input reads as it did. -/
def fnPathUptoRow : OpenClaim := { program := "ytineecongiplgaa", sum := "093b2a31e081c92caee16fd6ecb383eef9b12b8104aef193f4805024c7d6af76", func := "loop.example/g00556/laws.FnPath", spec := "fnPath", apart := false, narrowed := true }
def FnPathUptoSaid : Prop := fnPathUptoRow.holds Try.pinned (OpenSpec.upto fnPathSpec)

/-- 'laws.FnExactMasterRight', WHERE WHAT IT READS IS OF BULK AT MOST 1048576: true; the input reads as it did. -/
def fnExactMasterRightUptoRow : OpenClaim := { program := "ytineecongiplgaa", sum := "093b2a31e081c92caee16fd6ecb383eef9b12b8104aef193f4805024c7d6af76", func := "loop.example/g00556/laws.FnExactMasterRight", spec := "fnExactMasterRight", unfollowed := true, recurses := true, apart := false, narrowed := true }
def FnExactMasterRightUptoSaid : Prop := fnExactMasterRightUptoRow.holds Try.pinned (OpenSpec.upto fnExactMasterRightSpec)

/-- 'laws.FnExactSlaveRight', WHERE WHAT IT READS IS OF BULK AT MOST 1048576: true; the input reads as it did. -/
def fnExactSlaveRightUptoRow : OpenClaim := { program := "ytineecongiplgaa", sum := "093b2a31e081c92caee16fd6ecb383eef9b12b8104aef193f4805024c7d6af76", func := "loop.example/g00556/laws.FnExactSlaveRight", spec := "fnExactSlaveRight", apart := false, narrowed := true }
def FnExactSlaveRightUptoSaid : Prop := fnExactSlaveRightUptoRow.holds Try.pinned (OpenSpec.upto fnExactSlaveRightSpec)

/-- 'laws.FnExactLetterOf', WHERE WHAT IT READS IS OF BULK AT MOST 1048576: true; the input reads as it did. -/
def fnExactLetterOfUptoRow : OpenClaim := { program := "ytineecongiplgaa", sum := "093b2a31e081c92caee16fd6ecb383eef9b12b8104aef193f4805024c7d6af76", func := "loop.example/g00556/laws.FnExactLetterOf", spec := "fnExactLetterOf", apart := false, narrowed := true }
def FnExactLetterOfUptoSaid : Prop := fnExactLetterOfUptoRow.holds Try.pinned (OpenSpec.upto fnExactLetterOfSpec)

end Rows
end Go.Proofs.Ytineecongiplgaa
