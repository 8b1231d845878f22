/-
  No cell of these rows narrows 'for every input' (looked for: loops, veiled, ifaces, maps, wideKeys, modest, calm, conditions, laid).
  DERIVED. THE GIVEN ROWS OF THIS SEAT. 2 by the template 'for every input the law returns true; each argument reads behind the call as it read before'; 0 by the template 'total and deterministic' (their statements: YtimocipgikefoabTotals.lean).
  GIVEN WITH THE SEED: the statements are not yours to turn. If you find one false, say at which input.
  Laid BY PROGRAM, IN A SANDBOX (cutbox-rows.mjs): the forced cells as the released guide's own fill.sh prints them over the translation 66184d43383fa6e1… (all of the seat's roots in one cut). By AI agents, Wed Nov 11 2026. No macro, syntax, notation, axiom, sorry.
-/
import Derived.Test.YtimocipgikefoabChecked
import GoSem.Claim
import GoSem.ClaimJoined
import GoSem.ClaimMapViews
import Derived.JoinedTies
import Derived.KernelRfl
namespace Go.Proofs.Ytimocipgikefoab
/- THE CELL 'sum', in the pinned program and in every row, IS THE sha256 OF THE DUMP (.gsa) THAT YtimocipgikefoabProg.lean LOADS. Nothing in Lean hashes anything: it is a label: what it is worth is what the hold of that sum in a sandbox is worth. -/
noncomputable def Try.pinned : Pinned := { name := "ytimocipgikefoab", sum := "66184d43383fa6e13b70e645a2e59992bab555829d168c5a1eba5b77a2cc40e7", checked := Try.checked }
namespace Rows
def none {H : Type} : Left H := { results := [], args := [] }

/-- 'laws.FnExactPathBytes': WHATEVER THE INPUT: true; the input reads as it did. -/
def fnExactPathBytesSpec : ChangeSpec := { name := "fnExactPathBytes", fn := fun _ => fun
  | [d] => { results := [.lit (.bool true)], args := [d] }
  | _ => none }
def fnExactPathBytesRow : OpenClaim := { program := "ytimocipgikefoab", sum := "66184d43383fa6e13b70e645a2e59992bab555829d168c5a1eba5b77a2cc40e7", func := "loop.example/g00556/laws.FnExactPathBytes", spec := "fnExactPathBytes", apart := false }
def FnExactPathBytesSaid : Prop := fnExactPathBytesRow.holds Try.pinned (OpenSpec.ofChange fnExactPathBytesSpec)

/-- ITS FALSE NEIGHBOUR: 'it returns false'. Refute it at one input. -/
def fnExactPathBytesWrong : ChangeSpec := { name := "fnExactPathBytes", fn := fun _ => fun
  | [d] => { results := [.lit (.bool false)], args := [d] }
  | _ => none }
def FnExactPathBytesWrongFalsely : Prop := fnExactPathBytesRow.holds Try.pinned (OpenSpec.ofChange fnExactPathBytesWrong)

/-- 'laws.FnExactPathRead': WHATEVER THE INPUT: true; the input reads as it did. -/
def fnExactPathReadSpec : ChangeSpec := { name := "fnExactPathRead", fn := fun _ => fun
  | [d] => { results := [.lit (.bool true)], args := [d] }
  | _ => none }
def fnExactPathReadRow : OpenClaim := { program := "ytimocipgikefoab", sum := "66184d43383fa6e13b70e645a2e59992bab555829d168c5a1eba5b77a2cc40e7", func := "loop.example/g00556/laws.FnExactPathRead", spec := "fnExactPathRead", apart := false }
def FnExactPathReadSaid : Prop := fnExactPathReadRow.holds Try.pinned (OpenSpec.ofChange fnExactPathReadSpec)

/-- ITS FALSE NEIGHBOUR: 'it returns false'. Refute it at one input. -/
def fnExactPathReadWrong : ChangeSpec := { name := "fnExactPathRead", fn := fun _ => fun
  | [d] => { results := [.lit (.bool false)], args := [d] }
  | _ => none }
def FnExactPathReadWrongFalsely : Prop := fnExactPathReadRow.holds Try.pinned (OpenSpec.ofChange fnExactPathReadWrong)

/- THE SECOND FORM. 'bulk': how many values and letters a reading holds, each counted each time it is reached (what is shared counts as often as it is met; a slice's spare places count too). A statement '..UptoSaid' is the law's where the arguments, and the package variables that the reading takes, are together of bulk at most 1048576: NARROWER than '..Said'. Prove '..Said' where nothing that the law and all that it calls make is longer than what came in: it says more and counts as full. Else prove '..UptoSaid'. A law counts once. -/
mutual
def uptoBulk {H : Type} : DataW H → Nat
  | .lit (.string bytes) => bytes.length + 1
  | .lit _ => 1
  | .nil => 1
  | .ptr d => uptoBulk d + 1
  | .slice elems spare => uptoBulkAll elems + uptoBulkAll spare + 1
  | .agg parts => uptoBulkAll parts + 1
  | .iface _ d => uptoBulk d + 1
  | .map entries => uptoBulkEntries entries + 1
  | .held _ => 1
def uptoBulkAll {H : Type} : List (DataW H) → Nat
  | [] => 0
  | d :: r => uptoBulk d + uptoBulkAll r
def uptoBulkEntries {H : Type} : List (Lit × DataW H) → Nat
  | [] => 0
  | x :: r => uptoBulkEntry x + uptoBulkEntries r
def uptoBulkEntry {H : Type} : Lit × DataW H → Nat
  | (.string bytes, d) => bytes.length + uptoBulk d + 1
  | (_, d) => uptoBulk d + 1
 end
def uptoSmall : (H : Type) → List (DataW H) → Bool := fun _ ds => decide (uptoBulkAll ds ≤ 1048576)
def OpenSpec.upto (s : _root_.Go.ChangeSpec) : _root_.Go.OpenSpec := { _root_.Go.OpenSpec.ofChange s with cond := some uptoSmall }

/-- 'laws.FnExactPathBytes', WHERE WHAT IT READS IS OF BULK AT MOST 1048576: true; the input reads as it did. -/
def fnExactPathBytesUptoRow : OpenClaim := { program := "ytimocipgikefoab", sum := "66184d43383fa6e13b70e645a2e59992bab555829d168c5a1eba5b77a2cc40e7", func := "loop.example/g00556/laws.FnExactPathBytes", spec := "fnExactPathBytes", apart := false, narrowed := true }
def FnExactPathBytesUptoSaid : Prop := fnExactPathBytesUptoRow.holds Try.pinned (OpenSpec.upto fnExactPathBytesSpec)

/-- 'laws.FnExactPathRead', WHERE WHAT IT READS IS OF BULK AT MOST 1048576: true; the input reads as it did. -/
def fnExactPathReadUptoRow : OpenClaim := { program := "ytimocipgikefoab", sum := "66184d43383fa6e13b70e645a2e59992bab555829d168c5a1eba5b77a2cc40e7", func := "loop.example/g00556/laws.FnExactPathRead", spec := "fnExactPathRead", apart := false, narrowed := true }
def FnExactPathReadUptoSaid : Prop := fnExactPathReadUptoRow.holds Try.pinned (OpenSpec.upto fnExactPathReadSpec)

end Rows
end Go.Proofs.Ytimocipgikefoab
