/-
  No cell of these rows narrows 'for every input' (looked for: loops, veiled, ifaces, maps, wideKeys, modest, calm, conditions, laid).
  DERIVED. THE GIVEN ROWS OF THIS SEAT. 6 by the template 'for every input the law returns true; each argument reads behind the call as it read before'; 0 by the template 'total and deterministic' (their statements: YtancfnpmbddfoaaTotals.lean).
  GIVEN WITH THE SEED: the statements are not yours to turn. If you find one false, say at which input.
  Laid BY PROGRAM, IN A SANDBOX (cutbox-rows.mjs): the forced cells as the released guide's own fill.sh prints them over the translation 8569c3a4b0c27918… (all of the seat's roots in one cut). By AI agents, Wed Nov 11 2026. No macro, syntax, notation, axiom, sorry.
-/
import Derived.Test.YtancfnpmbddfoaaChecked
import GoSem.Claim
import GoSem.ClaimJoined
import GoSem.ClaimMapViews
import Derived.JoinedTies
import Derived.KernelRfl
namespace Go.Proofs.Ytancfnpmbddfoaa
/- THE CELL 'sum', in the pinned program and in every row, IS THE sha256 OF THE DUMP (.gsa) THAT YtancfnpmbddfoaaProg.lean LOADS. Nothing in Lean hashes anything: it is a label: what it is worth is what the hold of that sum in a sandbox is worth. -/
noncomputable def Try.pinned : Pinned := { name := "ytancfnpmbddfoaa", sum := "8569c3a4b0c2791849df42de9effbe0178aa0f6af5542bacbd7fac1e6a54ace9", checked := Try.checked }
namespace Rows
def none {H : Type} : Left H := { results := [], args := [] }

/-- 'laws.FnExactStationRight': WHATEVER THE INPUT: true; the input reads as it did. -/
def fnExactStationRightSpec : ChangeSpec := { name := "fnExactStationRight", fn := fun _ => fun
  | [d] => { results := [.lit (.bool true)], args := [d] }
  | _ => none }
def fnExactStationRightRow : OpenClaim := { program := "ytancfnpmbddfoaa", sum := "8569c3a4b0c2791849df42de9effbe0178aa0f6af5542bacbd7fac1e6a54ace9", func := "loop.example/g00556/laws.FnExactStationRight", spec := "fnExactStationRight", apart := false }
def FnExactStationRightSaid : Prop := fnExactStationRightRow.holds Try.pinned (OpenSpec.ofChange fnExactStationRightSpec)

/-- ITS FALSE NEIGHBOUR: 'it returns false'. Refute it at one input. -/
def fnExactStationRightWrong : ChangeSpec := { name := "fnExactStationRight", fn := fun _ => fun
  | [d] => { results := [.lit (.bool false)], args := [d] }
  | _ => none }
def FnExactStationRightWrongFalsely : Prop := fnExactStationRightRow.holds Try.pinned (OpenSpec.ofChange fnExactStationRightWrong)

/-- 'laws.FnExactStationNew': WHATEVER THE INPUT: true; the input reads as it did. -/
def fnExactStationNewSpec : ChangeSpec := { name := "fnExactStationNew", fn := fun _ => fun
  | [d1, d2] => { results := [.lit (.bool true)], args := [d1, d2] }
  | _ => none }
def fnExactStationNewRow : OpenClaim := { program := "ytancfnpmbddfoaa", sum := "8569c3a4b0c2791849df42de9effbe0178aa0f6af5542bacbd7fac1e6a54ace9", func := "loop.example/g00556/laws.FnExactStationNew", spec := "fnExactStationNew", apart := false }
def FnExactStationNewSaid : Prop := fnExactStationNewRow.holds Try.pinned (OpenSpec.ofChange fnExactStationNewSpec)

/-- ITS FALSE NEIGHBOUR: 'it returns false'. Refute it at one input. -/
def fnExactStationNewWrong : ChangeSpec := { name := "fnExactStationNew", fn := fun _ => fun
  | [d1, d2] => { results := [.lit (.bool false)], args := [d1, d2] }
  | _ => none }
def FnExactStationNewWrongFalsely : Prop := fnExactStationNewRow.holds Try.pinned (OpenSpec.ofChange fnExactStationNewWrong)

/-- 'laws.FnExactNextOf': WHATEVER THE INPUT: true; the input reads as it did. -/
def fnExactNextOfSpec : ChangeSpec := { name := "fnExactNextOf", fn := fun _ => fun
  | [d] => { results := [.lit (.bool true)], args := [d] }
  | _ => none }
def fnExactNextOfRow : OpenClaim := { program := "ytancfnpmbddfoaa", sum := "8569c3a4b0c2791849df42de9effbe0178aa0f6af5542bacbd7fac1e6a54ace9", func := "loop.example/g00556/laws.FnExactNextOf", spec := "fnExactNextOf", apart := false }
def FnExactNextOfSaid : Prop := fnExactNextOfRow.holds Try.pinned (OpenSpec.ofChange fnExactNextOfSpec)

/-- ITS FALSE NEIGHBOUR: 'it returns false'. Refute it at one input. -/
def fnExactNextOfWrong : ChangeSpec := { name := "fnExactNextOf", fn := fun _ => fun
  | [d] => { results := [.lit (.bool false)], args := [d] }
  | _ => none }
def FnExactNextOfWrongFalsely : Prop := fnExactNextOfRow.holds Try.pinned (OpenSpec.ofChange fnExactNextOfWrong)

/-- 'laws.FnExactPublish': WHATEVER THE INPUT: true; the input reads as it did. -/
def fnExactPublishSpec : ChangeSpec := { name := "fnExactPublish", fn := fun _ => fun
  | [d1, d2] => { results := [.lit (.bool true)], args := [d1, d2] }
  | _ => none }
def fnExactPublishRow : OpenClaim := { program := "ytancfnpmbddfoaa", sum := "8569c3a4b0c2791849df42de9effbe0178aa0f6af5542bacbd7fac1e6a54ace9", func := "loop.example/g00556/laws.FnExactPublish", spec := "fnExactPublish", apart := false }
def FnExactPublishSaid : Prop := fnExactPublishRow.holds Try.pinned (OpenSpec.ofChange fnExactPublishSpec)

/-- ITS FALSE NEIGHBOUR: 'it returns false'. Refute it at one input. -/
def fnExactPublishWrong : ChangeSpec := { name := "fnExactPublish", fn := fun _ => fun
  | [d1, d2] => { results := [.lit (.bool false)], args := [d1, d2] }
  | _ => none }
def FnExactPublishWrongFalsely : Prop := fnExactPublishRow.holds Try.pinned (OpenSpec.ofChange fnExactPublishWrong)

/-- 'laws.FnExactQueue': WHATEVER THE INPUT: true; the input reads as it did. -/
def fnExactQueueSpec : ChangeSpec := { name := "fnExactQueue", fn := fun _ => fun
  | [d1, d2] => { results := [.lit (.bool true)], args := [d1, d2] }
  | _ => none }
def fnExactQueueRow : OpenClaim := { program := "ytancfnpmbddfoaa", sum := "8569c3a4b0c2791849df42de9effbe0178aa0f6af5542bacbd7fac1e6a54ace9", func := "loop.example/g00556/laws.FnExactQueue", spec := "fnExactQueue", apart := false }
def FnExactQueueSaid : Prop := fnExactQueueRow.holds Try.pinned (OpenSpec.ofChange fnExactQueueSpec)

/-- ITS FALSE NEIGHBOUR: 'it returns false'. Refute it at one input. -/
def fnExactQueueWrong : ChangeSpec := { name := "fnExactQueue", fn := fun _ => fun
  | [d1, d2] => { results := [.lit (.bool false)], args := [d1, d2] }
  | _ => none }
def FnExactQueueWrongFalsely : Prop := fnExactQueueRow.holds Try.pinned (OpenSpec.ofChange fnExactQueueWrong)

/-- 'laws.FnExactGlobalOf': WHATEVER THE INPUT: true; the input reads as it did. -/
def fnExactGlobalOfSpec : ChangeSpec := { name := "fnExactGlobalOf", fn := fun _ => fun
  | [d1, d2] => { results := [.lit (.bool true)], args := [d1, d2] }
  | _ => none }
def fnExactGlobalOfRow : OpenClaim := { program := "ytancfnpmbddfoaa", sum := "8569c3a4b0c2791849df42de9effbe0178aa0f6af5542bacbd7fac1e6a54ace9", func := "loop.example/g00556/laws.FnExactGlobalOf", spec := "fnExactGlobalOf", apart := false }
def FnExactGlobalOfSaid : Prop := fnExactGlobalOfRow.holds Try.pinned (OpenSpec.ofChange fnExactGlobalOfSpec)

/-- ITS FALSE NEIGHBOUR: 'it returns false'. Refute it at one input. -/
def fnExactGlobalOfWrong : ChangeSpec := { name := "fnExactGlobalOf", fn := fun _ => fun
  | [d1, d2] => { results := [.lit (.bool false)], args := [d1, d2] }
  | _ => none }
def FnExactGlobalOfWrongFalsely : Prop := fnExactGlobalOfRow.holds Try.pinned (OpenSpec.ofChange fnExactGlobalOfWrong)

/- THE SECOND FORM. 'bulk': how many values and letters a reading holds, each counted each time it is reached (what is shared counts as often as it is met; a slice's spare places count too). A statement '..UptoSaid' is the law's where the arguments, and the package variables that the reading takes, are together of bulk at most 1048576: NARROWER than '..Said'. Prove '..Said' where nothing that the law and all that it calls make is longer than what came in: it says more and counts as full. Else prove '..UptoSaid'. A law counts once. -/
mutual
def uptoBulk {H : Type} : DataW H → Nat
  | .lit (.string bytes) => bytes.length + 1
  | .lit _ => 1
  | .nil => 1
  | .ptr d => uptoBulk d + 1
  | .slice elems spare => uptoBulkAll elems + uptoBulkAll spare + 1
  | .agg parts => uptoBulkAll parts + 1
  | .iface _ d => uptoBulk d + 1
  | .map entries => uptoBulkEntries entries + 1
  | .held _ => 1
def uptoBulkAll {H : Type} : List (DataW H) → Nat
  | [] => 0
  | d :: r => uptoBulk d + uptoBulkAll r
def uptoBulkEntries {H : Type} : List (Lit × DataW H) → Nat
  | [] => 0
  | x :: r => uptoBulkEntry x + uptoBulkEntries r
def uptoBulkEntry {H : Type} : Lit × DataW H → Nat
  | (.string bytes, d) => bytes.length + uptoBulk d + 1
  | (_, d) => uptoBulk d + 1
 end
def uptoSmall : (H : Type) → List (DataW H) → Bool := fun _ ds => decide (uptoBulkAll ds ≤ 1048576)
def OpenSpec.upto (s : _root_.Go.ChangeSpec) : _root_.Go.OpenSpec := { _root_.Go.OpenSpec.ofChange s with cond := some uptoSmall }

/-- 'laws.FnExactStationRight', WHERE WHAT IT READS IS OF BULK AT MOST 1048576: true; the input reads as it did. -/
def fnExactStationRightUptoRow : OpenClaim := { program := "ytancfnpmbddfoaa", sum := "8569c3a4b0c2791849df42de9effbe0178aa0f6af5542bacbd7fac1e6a54ace9", func := "loop.example/g00556/laws.FnExactStationRight", spec := "fnExactStationRight", apart := false, narrowed := true }
def FnExactStationRightUptoSaid : Prop := fnExactStationRightUptoRow.holds Try.pinned (OpenSpec.upto fnExactStationRightSpec)

/-- 'laws.FnExactStationNew', WHERE WHAT IT READS IS OF BULK AT MOST 1048576: true; the input reads as it did. -/
def fnExactStationNewUptoRow : OpenClaim := { program := "ytancfnpmbddfoaa", sum := "8569c3a4b0c2791849df42de9effbe0178aa0f6af5542bacbd7fac1e6a54ace9", func := "loop.example/g00556/laws.FnExactStationNew", spec := "fnExactStationNew", apart := false, narrowed := true }
def FnExactStationNewUptoSaid : Prop := fnExactStationNewUptoRow.holds Try.pinned (OpenSpec.upto fnExactStationNewSpec)

/-- 'laws.FnExactNextOf', WHERE WHAT IT READS IS OF BULK AT MOST 1048576: true; the input reads as it did. -/
def fnExactNextOfUptoRow : OpenClaim := { program := "ytancfnpmbddfoaa", sum := "8569c3a4b0c2791849df42de9effbe0178aa0f6af5542bacbd7fac1e6a54ace9", func := "loop.example/g00556/laws.FnExactNextOf", spec := "fnExactNextOf", apart := false, narrowed := true }
def FnExactNextOfUptoSaid : Prop := fnExactNextOfUptoRow.holds Try.pinned (OpenSpec.upto fnExactNextOfSpec)

/-- 'laws.FnExactPublish', WHERE WHAT IT READS IS OF BULK AT MOST 1048576: true; the input reads as it did. -/
def fnExactPublishUptoRow : OpenClaim := { program := "ytancfnpmbddfoaa", sum := "8569c3a4b0c2791849df42de9effbe0178aa0f6af5542bacbd7fac1e6a54ace9", func := "loop.example/g00556/laws.FnExactPublish", spec := "fnExactPublish", apart := false, narrowed := true }
def FnExactPublishUptoSaid : Prop := fnExactPublishUptoRow.holds Try.pinned (OpenSpec.upto fnExactPublishSpec)

/-- 'laws.FnExactQueue', WHERE WHAT IT READS IS OF BULK AT MOST 1048576: true; the input reads as it did. -/
def fnExactQueueUptoRow : OpenClaim := { program := "ytancfnpmbddfoaa", sum := "8569c3a4b0c2791849df42de9effbe0178aa0f6af5542bacbd7fac1e6a54ace9", func := "loop.example/g00556/laws.FnExactQueue", spec := "fnExactQueue", apart := false, narrowed := true }
def FnExactQueueUptoSaid : Prop := fnExactQueueUptoRow.holds Try.pinned (OpenSpec.upto fnExactQueueSpec)

/-- 'laws.FnExactGlobalOf', WHERE WHAT IT READS IS OF BULK AT MOST 1048576: true; the input reads as it did. -/
def fnExactGlobalOfUptoRow : OpenClaim := { program := "ytancfnpmbddfoaa", sum := "8569c3a4b0c2791849df42de9effbe0178aa0f6af5542bacbd7fac1e6a54ace9", func := "loop.example/g00556/laws.FnExactGlobalOf", spec := "fnExactGlobalOf", apart := false, narrowed := true }
def FnExactGlobalOfUptoSaid : Prop := fnExactGlobalOfUptoRow.holds Try.pinned (OpenSpec.upto fnExactGlobalOfSpec)

end Rows
end Go.Proofs.Ytancfnpmbddfoaa
