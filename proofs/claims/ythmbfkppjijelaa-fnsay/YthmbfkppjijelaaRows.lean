/-
  No cell of these rows narrows 'for every input' (looked for: loops, veiled, ifaces, maps, wideKeys, modest, calm, conditions, laid).
  DERIVED. THE GIVEN ROWS OF THIS SEAT. 4 by the template 'for every input the law returns true; each argument reads behind the call as it read before'; 0 by the template 'total and deterministic' (their statements: YthmbfkppjijelaaTotals.lean).
  GIVEN WITH THE SEED: the statements are not yours to turn. If you find one false, say at which input.
  Laid BY PROGRAM, IN A SANDBOX (cutbox-rows.mjs): the forced cells as the released guide's own fill.sh prints them over the translation 44bbbe16aff151e3… (all of the seat's roots in one cut). By AI agents, Wed Nov 11 2026. No macro, syntax, notation, axiom, sorry.
-/
import Derived.Test.YthmbfkppjijelaaChecked
import GoSem.Claim
import GoSem.ClaimJoined
import GoSem.ClaimMapViews
import Derived.JoinedTies
import Derived.KernelRfl
namespace Go.Proofs.Ythmbfkppjijelaa
/- THE CELL 'sum', in the pinned program and in every row, IS THE sha256 OF THE DUMP (.gsa) THAT YthmbfkppjijelaaProg.lean LOADS. Nothing in Lean hashes anything: it is a label: what it is worth is what the hold of that sum in a sandbox is worth. -/
noncomputable def Try.pinned : Pinned := { name := "ythmbfkppjijelaa", sum := "44bbbe16aff151e313c362b8a629b61a7ca2bc33d71129e4a4ac394de8d3232a", checked := Try.checked }
namespace Rows
def none {H : Type} : Left H := { results := [], args := [] }

/-- 'laws.FnSay': WHATEVER THE INPUT: true; the input reads as it did. -/
def fnSaySpec : ChangeSpec := { name := "fnSay", fn := fun _ => fun
  | [d1, d2] => { results := [.lit (.bool true)], args := [d1, d2] }
  | _ => none }
def fnSayRow : OpenClaim := { program := "ythmbfkppjijelaa", sum := "44bbbe16aff151e313c362b8a629b61a7ca2bc33d71129e4a4ac394de8d3232a", func := "loop.example/g00556/laws.FnSay", spec := "fnSay", apart := false }
def FnSaySaid : Prop := fnSayRow.holds Try.pinned (OpenSpec.ofChange fnSaySpec)

/-- ITS FALSE NEIGHBOUR: 'it returns false'. Refute it at one input. -/
def fnSayWrong : ChangeSpec := { name := "fnSay", fn := fun _ => fun
  | [d1, d2] => { results := [.lit (.bool false)], args := [d1, d2] }
  | _ => none }
def FnSayWrongFalsely : Prop := fnSayRow.holds Try.pinned (OpenSpec.ofChange fnSayWrong)

/-- 'laws.FnExactSayRight': WHATEVER THE INPUT: true; the input reads as it did. -/
def fnExactSayRightSpec : ChangeSpec := { name := "fnExactSayRight", fn := fun _ => fun
  | [d] => { results := [.lit (.bool true)], args := [d] }
  | _ => none }
def fnExactSayRightRow : OpenClaim := { program := "ythmbfkppjijelaa", sum := "44bbbe16aff151e313c362b8a629b61a7ca2bc33d71129e4a4ac394de8d3232a", func := "loop.example/g00556/laws.FnExactSayRight", spec := "fnExactSayRight", apart := false }
def FnExactSayRightSaid : Prop := fnExactSayRightRow.holds Try.pinned (OpenSpec.ofChange fnExactSayRightSpec)

/-- ITS FALSE NEIGHBOUR: 'it returns false'. Refute it at one input. -/
def fnExactSayRightWrong : ChangeSpec := { name := "fnExactSayRight", fn := fun _ => fun
  | [d] => { results := [.lit (.bool false)], args := [d] }
  | _ => none }
def FnExactSayRightWrongFalsely : Prop := fnExactSayRightRow.holds Try.pinned (OpenSpec.ofChange fnExactSayRightWrong)

/-- 'laws.FnExactSayBytes': WHATEVER THE INPUT: true; the input reads as it did. -/
def fnExactSayBytesSpec : ChangeSpec := { name := "fnExactSayBytes", fn := fun _ => fun
  | [d] => { results := [.lit (.bool true)], args := [d] }
  | _ => none }
def fnExactSayBytesRow : OpenClaim := { program := "ythmbfkppjijelaa", sum := "44bbbe16aff151e313c362b8a629b61a7ca2bc33d71129e4a4ac394de8d3232a", func := "loop.example/g00556/laws.FnExactSayBytes", spec := "fnExactSayBytes", apart := false }
def FnExactSayBytesSaid : Prop := fnExactSayBytesRow.holds Try.pinned (OpenSpec.ofChange fnExactSayBytesSpec)

/-- ITS FALSE NEIGHBOUR: 'it returns false'. Refute it at one input. -/
def fnExactSayBytesWrong : ChangeSpec := { name := "fnExactSayBytes", fn := fun _ => fun
  | [d] => { results := [.lit (.bool false)], args := [d] }
  | _ => none }
def FnExactSayBytesWrongFalsely : Prop := fnExactSayBytesRow.holds Try.pinned (OpenSpec.ofChange fnExactSayBytesWrong)

/-- 'laws.FnExactSayRead': WHATEVER THE INPUT: true; the input reads as it did. -/
def fnExactSayReadSpec : ChangeSpec := { name := "fnExactSayRead", fn := fun _ => fun
  | [d] => { results := [.lit (.bool true)], args := [d] }
  | _ => none }
def fnExactSayReadRow : OpenClaim := { program := "ythmbfkppjijelaa", sum := "44bbbe16aff151e313c362b8a629b61a7ca2bc33d71129e4a4ac394de8d3232a", func := "loop.example/g00556/laws.FnExactSayRead", spec := "fnExactSayRead", apart := false }
def FnExactSayReadSaid : Prop := fnExactSayReadRow.holds Try.pinned (OpenSpec.ofChange fnExactSayReadSpec)

/-- ITS FALSE NEIGHBOUR: 'it returns false'. Refute it at one input. -/
def fnExactSayReadWrong : ChangeSpec := { name := "fnExactSayRead", fn := fun _ => fun
  | [d] => { results := [.lit (.bool false)], args := [d] }
  | _ => none }
def FnExactSayReadWrongFalsely : Prop := fnExactSayReadRow.holds Try.pinned (OpenSpec.ofChange fnExactSayReadWrong)

/- THE SECOND FORM. 'bulk': how many values and letters a reading holds, each counted each time it is reached (what is shared counts as often as it is met; a slice's spare places count too). A statement '..UptoSaid' is the law's where the arguments, and the package variables that the reading takes, are together of bulk at most 1048576: NARROWER than '..Said'. Prove '..Said' where nothing that the law and all that it calls make is longer than what came in: it says more and counts as full. Else prove '..UptoSaid'. A law counts once. -/
mutual
def uptoBulk {H : Type} : DataW H → Nat
  | .lit (.string bytes) => bytes.length + 1
  | .lit _ => 1
  | .nil => 1
  | .ptr d => uptoBulk d + 1
  | .slice elems spare => uptoBulkAll elems + uptoBulkAll spare + 1
  | .agg parts => uptoBulkAll parts + 1
  | .iface _ d => uptoBulk d + 1
  | .map entries => uptoBulkEntries entries + 1
  | .held _ => 1
def uptoBulkAll {H : Type} : List (DataW H) → Nat
  | [] => 0
  | d :: r => uptoBulk d + uptoBulkAll r
def uptoBulkEntries {H : Type} : List (Lit × DataW H) → Nat
  | [] => 0
  | x :: r => uptoBulkEntry x + uptoBulkEntries r
def uptoBulkEntry {H : Type} : Lit × DataW H → Nat
  | (.string bytes, d) => bytes.length + uptoBulk d + 1
  | (_, d) => uptoBulk d + 1
 end
def uptoSmall : (H : Type) → List (DataW H) → Bool := fun _ ds => decide (uptoBulkAll ds ≤ 1048576)
def OpenSpec.upto (s : _root_.Go.ChangeSpec) : _root_.Go.OpenSpec := { _root_.Go.OpenSpec.ofChange s with cond := some uptoSmall }

/-- 'laws.FnSay', WHERE WHAT IT READS IS OF BULK AT MOST 1048576: true; the input reads as it did. -/
def fnSayUptoRow : OpenClaim := { program := "ythmbfkppjijelaa", sum := "44bbbe16aff151e313c362b8a629b61a7ca2bc33d71129e4a4ac394de8d3232a", func := "loop.example/g00556/laws.FnSay", spec := "fnSay", apart := false, narrowed := true }
def FnSayUptoSaid : Prop := fnSayUptoRow.holds Try.pinned (OpenSpec.upto fnSaySpec)

/-- 'laws.FnExactSayRight', WHERE WHAT IT READS IS OF BULK AT MOST 1048576: true; the input reads as it did. -/
def fnExactSayRightUptoRow : OpenClaim := { program := "ythmbfkppjijelaa", sum := "44bbbe16aff151e313c362b8a629b61a7ca2bc33d71129e4a4ac394de8d3232a", func := "loop.example/g00556/laws.FnExactSayRight", spec := "fnExactSayRight", apart := false, narrowed := true }
def FnExactSayRightUptoSaid : Prop := fnExactSayRightUptoRow.holds Try.pinned (OpenSpec.upto fnExactSayRightSpec)

/-- 'laws.FnExactSayBytes', WHERE WHAT IT READS IS OF BULK AT MOST 1048576: true; the input reads as it did. -/
def fnExactSayBytesUptoRow : OpenClaim := { program := "ythmbfkppjijelaa", sum := "44bbbe16aff151e313c362b8a629b61a7ca2bc33d71129e4a4ac394de8d3232a", func := "loop.example/g00556/laws.FnExactSayBytes", spec := "fnExactSayBytes", apart := false, narrowed := true }
def FnExactSayBytesUptoSaid : Prop := fnExactSayBytesUptoRow.holds Try.pinned (OpenSpec.upto fnExactSayBytesSpec)

/-- 'laws.FnExactSayRead', WHERE WHAT IT READS IS OF BULK AT MOST 1048576: true; the input reads as it did. -/
def fnExactSayReadUptoRow : OpenClaim := { program := "ythmbfkppjijelaa", sum := "44bbbe16aff151e313c362b8a629b61a7ca2bc33d71129e4a4ac394de8d3232a", func := "loop.example/g00556/laws.FnExactSayRead", spec := "fnExactSayRead", apart := false, narrowed := true }
def FnExactSayReadUptoSaid : Prop := fnExactSayReadUptoRow.holds Try.pinned (OpenSpec.upto fnExactSayReadSpec)

end Rows
end Go.Proofs.Ythmbfkppjijelaa
