/-
  No cell of these rows narrows 'for every input' (looked for: loops, veiled, ifaces, maps, wideKeys, modest, calm, conditions, laid).
  DERIVED. THE GIVEN ROWS OF THIS SEAT. 4 by the template 'for every input the law returns true; each argument reads behind the call as it read before'; 0 by the template 'total and deterministic' (their statements: YtggdjiijcoklgaaTotals.lean).
  GIVEN WITH THE SEED: the statements are not yours to turn. If you find one false, say at which input.
  Laid BY PROGRAM, IN A SANDBOX (cutbox-rows.mjs): the forced cells as the released guide's own fill.sh prints them over the translation f73cb21d53801c3a… (all of the seat's roots in one cut). By AI agents, Wed Nov 11 2026. No macro, syntax, notation, axiom, sorry.
-/
import Derived.Test.YtggdjiijcoklgaaChecked
import GoSem.Claim
import GoSem.ClaimJoined
import GoSem.ClaimMapViews
import Derived.JoinedTies
import Derived.KernelRfl
namespace Go.Proofs.Ytggdjiijcoklgaa
/- THE CELL 'sum', in the pinned program and in every row, IS THE sha256 OF THE DUMP (.gsa) THAT YtggdjiijcoklgaaProg.lean LOADS. Nothing in Lean hashes anything: it is a label: what it is worth is what the hold of that sum in a sandbox is worth. -/
noncomputable def Try.pinned : Pinned := { name := "ytggdjiijcoklgaa", sum := "f73cb21d53801c3a7d30bc25a63c5c5b14503a4ada30705c4cae427fe22023a4", checked := Try.checked }
namespace Rows
def none {H : Type} : Left H := { results := [], args := [] }

/-- 'laws.FnExactQueue': WHATEVER THE INPUT: true; the input reads as it did. -/
def fnExactQueueSpec : ChangeSpec := { name := "fnExactQueue", fn := fun _ => fun
  | [d1, d2] => { results := [.lit (.bool true)], args := [d1, d2] }
  | _ => none }
def fnExactQueueRow : OpenClaim := { program := "ytggdjiijcoklgaa", sum := "f73cb21d53801c3a7d30bc25a63c5c5b14503a4ada30705c4cae427fe22023a4", func := "loop.example/g00556/laws.FnExactQueue", spec := "fnExactQueue", apart := false }
def FnExactQueueSaid : Prop := fnExactQueueRow.holds Try.pinned (OpenSpec.ofChange fnExactQueueSpec)

/-- ITS FALSE NEIGHBOUR: 'it returns false'. Refute it at one input. -/
def fnExactQueueWrong : ChangeSpec := { name := "fnExactQueue", fn := fun _ => fun
  | [d1, d2] => { results := [.lit (.bool false)], args := [d1, d2] }
  | _ => none }
def FnExactQueueWrongFalsely : Prop := fnExactQueueRow.holds Try.pinned (OpenSpec.ofChange fnExactQueueWrong)

/-- 'laws.FnExactSegmentRight': WHATEVER THE INPUT: true; the input reads as it did. -/
def fnExactSegmentRightSpec : ChangeSpec := { name := "fnExactSegmentRight", fn := fun _ => fun
  | [d] => { results := [.lit (.bool true)], args := [d] }
  | _ => none }
def fnExactSegmentRightRow : OpenClaim := { program := "ytggdjiijcoklgaa", sum := "f73cb21d53801c3a7d30bc25a63c5c5b14503a4ada30705c4cae427fe22023a4", func := "loop.example/g00556/laws.FnExactSegmentRight", spec := "fnExactSegmentRight", unfollowed := true, recurses := true, apart := false }
def FnExactSegmentRightSaid : Prop := fnExactSegmentRightRow.holds Try.pinned (OpenSpec.ofChange fnExactSegmentRightSpec)

/-- ITS FALSE NEIGHBOUR: 'it returns false'. Refute it at one input. -/
def fnExactSegmentRightWrong : ChangeSpec := { name := "fnExactSegmentRight", fn := fun _ => fun
  | [d] => { results := [.lit (.bool false)], args := [d] }
  | _ => none }
def FnExactSegmentRightWrongFalsely : Prop := fnExactSegmentRightRow.holds Try.pinned (OpenSpec.ofChange fnExactSegmentRightWrong)

/-- 'laws.FnExactSegmentNew': WHATEVER THE INPUT: true; the input reads as it did. -/
def fnExactSegmentNewSpec : ChangeSpec := { name := "fnExactSegmentNew", fn := fun _ => fun
  | [d] => { results := [.lit (.bool true)], args := [d] }
  | _ => none }
def fnExactSegmentNewRow : OpenClaim := { program := "ytggdjiijcoklgaa", sum := "f73cb21d53801c3a7d30bc25a63c5c5b14503a4ada30705c4cae427fe22023a4", func := "loop.example/g00556/laws.FnExactSegmentNew", spec := "fnExactSegmentNew", unfollowed := true, recurses := true, apart := false }
def FnExactSegmentNewSaid : Prop := fnExactSegmentNewRow.holds Try.pinned (OpenSpec.ofChange fnExactSegmentNewSpec)

/-- ITS FALSE NEIGHBOUR: 'it returns false'. Refute it at one input. -/
def fnExactSegmentNewWrong : ChangeSpec := { name := "fnExactSegmentNew", fn := fun _ => fun
  | [d] => { results := [.lit (.bool false)], args := [d] }
  | _ => none }
def FnExactSegmentNewWrongFalsely : Prop := fnExactSegmentNewRow.holds Try.pinned (OpenSpec.ofChange fnExactSegmentNewWrong)

/-- 'laws.FnExactHolders': WHATEVER THE INPUT: true; the input reads as it did. -/
def fnExactHoldersSpec : ChangeSpec := { name := "fnExactHolders", fn := fun _ => fun
  | [d] => { results := [.lit (.bool true)], args := [d] }
  | _ => none }
def fnExactHoldersRow : OpenClaim := { program := "ytggdjiijcoklgaa", sum := "f73cb21d53801c3a7d30bc25a63c5c5b14503a4ada30705c4cae427fe22023a4", func := "loop.example/g00556/laws.FnExactHolders", spec := "fnExactHolders", unfollowed := true, recurses := true, apart := false }
def FnExactHoldersSaid : Prop := fnExactHoldersRow.holds Try.pinned (OpenSpec.ofChange fnExactHoldersSpec)

/-- ITS FALSE NEIGHBOUR: 'it returns false'. Refute it at one input. -/
def fnExactHoldersWrong : ChangeSpec := { name := "fnExactHolders", fn := fun _ => fun
  | [d] => { results := [.lit (.bool false)], args := [d] }
  | _ => none }
def FnExactHoldersWrongFalsely : Prop := fnExactHoldersRow.holds Try.pinned (OpenSpec.ofChange fnExactHoldersWrong)

/- THE SECOND FORM. 'bulk': how many values and letters a reading holds, each counted each time it is reached (what is shared counts as often as it is met; a slice's spare places count too). A statement '..UptoSaid' is the law's where the arguments, and the package variables that the reading takes, are together of bulk at most 1048576: NARROWER than '..Said'. Prove '..Said' where nothing that the law and all that it calls make is longer than what came in: it says more and counts as full. Else prove '..UptoSaid'. A law counts once. -/
mutual
def uptoBulk {H : Type} : DataW H → Nat
  | .lit (.string bytes) => bytes.length + 1
  | .lit _ => 1
  | .nil => 1
  | .ptr d => uptoBulk d + 1
  | .slice elems spare => uptoBulkAll elems + uptoBulkAll spare + 1
  | .agg parts => uptoBulkAll parts + 1
  | .iface _ d => uptoBulk d + 1
  | .map entries => uptoBulkEntries entries + 1
  | .held _ => 1
def uptoBulkAll {H : Type} : List (DataW H) → Nat
  | [] => 0
  | d :: r => uptoBulk d + uptoBulkAll r
def uptoBulkEntries {H : Type} : List (Lit × DataW H) → Nat
  | [] => 0
  | x :: r => uptoBulkEntry x + uptoBulkEntries r
def uptoBulkEntry {H : Type} : Lit × DataW H → Nat
  | (.string bytes, d) => bytes.length + uptoBulk d + 1
  | (_, d) => uptoBulk d + 1
 end
def uptoSmall : (H : Type) → List (DataW H) → Bool := fun _ ds => decide (uptoBulkAll ds ≤ 1048576)
def OpenSpec.upto (s : _root_.Go.ChangeSpec) : _root_.Go.OpenSpec := { _root_.Go.OpenSpec.ofChange s with cond := some uptoSmall }

/-- 'laws.FnExactQueue', WHERE WHAT IT READS IS OF BULK AT MOST 1048576: true; the input reads as it did. -/
def fnExactQueueUptoRow : OpenClaim := { program := "ytggdjiijcoklgaa", sum := "f73cb21d53801c3a7d30bc25a63c5c5b14503a4ada30705c4cae427fe22023a4", func := "loop.example/g00556/laws.FnExactQueue", spec := "fnExactQueue", apart := false, narrowed := true }
def FnExactQueueUptoSaid : Prop := fnExactQueueUptoRow.holds Try.pinned (OpenSpec.upto fnExactQueueSpec)

/-- 'laws.FnExactSegmentRight', WHERE WHAT IT READS IS OF BULK AT MOST 1048576: true; the input reads as it did. -/
def fnExactSegmentRightUptoRow : OpenClaim := { program := "ytggdjiijcoklgaa", sum := "f73cb21d53801c3a7d30bc25a63c5c5b14503a4ada30705c4cae427fe22023a4", func := "loop.example/g00556/laws.FnExactSegmentRight", spec := "fnExactSegmentRight", unfollowed := true, recurses := true, apart := false, narrowed := true }
def FnExactSegmentRightUptoSaid : Prop := fnExactSegmentRightUptoRow.holds Try.pinned (OpenSpec.upto fnExactSegmentRightSpec)

/-- 'laws.FnExactSegmentNew', WHERE WHAT IT READS IS OF BULK AT MOST 1048576: true; the input reads as it did. -/
def fnExactSegmentNewUptoRow : OpenClaim := { program := "ytggdjiijcoklgaa", sum := "f73cb21d53801c3a7d30bc25a63c5c5b14503a4ada30705c4cae427fe22023a4", func := "loop.example/g00556/laws.FnExactSegmentNew", spec := "fnExactSegmentNew", unfollowed := true, recurses := true, apart := false, narrowed := true }
def FnExactSegmentNewUptoSaid : Prop := fnExactSegmentNewUptoRow.holds Try.pinned (OpenSpec.upto fnExactSegmentNewSpec)

/-- 'laws.FnExactHolders', WHERE WHAT IT READS IS OF BULK AT MOST 1048576: true; the input reads as it did. -/
def fnExactHoldersUptoRow : OpenClaim := { program := "ytggdjiijcoklgaa", sum := "f73cb21d53801c3a7d30bc25a63c5c5b14503a4ada30705c4cae427fe22023a4", func := "loop.example/g00556/laws.FnExactHolders", spec := "fnExactHolders", unfollowed := true, recurses := true, apart := false, narrowed := true }
def FnExactHoldersUptoSaid : Prop := fnExactHoldersUptoRow.holds Try.pinned (OpenSpec.upto fnExactHoldersSpec)

end Rows
end Go.Proofs.Ytggdjiijcoklgaa
