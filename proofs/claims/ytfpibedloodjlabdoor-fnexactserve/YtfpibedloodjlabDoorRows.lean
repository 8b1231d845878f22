/-
  NARROWER THAN 'FOR EVERY INPUT', by the rows' own cells (each row's printed sentence says how): FnExactServe: ifaces, laid.
  DERIVED. THE GIVEN ROWS OF THIS SEAT. 1 by the template 'for every input the law returns true; each argument reads behind the call as it read before'; 0 by the template 'total and deterministic' (their statements: YtfpibedloodjlabDoorTotals.lean).
  GIVEN WITH THE SEED: the statements are not yours to turn. If you find one false, say at which input.
  Laid BY PROGRAM, IN A SANDBOX (cutbox-rows.mjs): the forced cells as the released guide's own fill.sh prints them over the translation 829a918ce1b5bf29… (all of the seat's roots in one cut). By AI agents, Wed Nov 11 2026. No macro, syntax, notation, axiom, sorry.
-/
import Derived.Test.YtfpibedloodjlabDoorChecked
import GoSem.Claim
import GoSem.ClaimJoined
import GoSem.ClaimMapViews
import Derived.JoinedTies
import Derived.KernelRfl
namespace Go.Proofs.YtfpibedloodjlabDoor
/- THE CELL 'sum', in the pinned program and in every row, IS THE sha256 OF THE DUMP (.gsa) THAT YtfpibedloodjlabDoorProg.lean LOADS. Nothing in Lean hashes anything: it is a label: what it is worth is what the hold of that sum in a sandbox is worth. -/
noncomputable def Tryd.pinned : Pinned := { name := "ytfpibedloodjlabdoor", sum := "829a918ce1b5bf292cd94ab8691002f8537d7fae9798a901b6e64e0b1d5cdce5", checked := Tryd.checked }
namespace Rows
def none {H : Type} : Left H := { results := [], args := [] }

/- WHAT THE LISTED PACKAGE-LEVEL VARIABLES READ AS WHEN THE CALL BEGINS. Each datum BY PROGRAM (the guide's laid-datum.mjs) off the statement by which the dump's own 'gosem.cut.vars' lays the variable. In a bare row this is a premise. The card (YtfpibedloodjlabDoorCards.lean) ties it to the program's text. -/
def laid_loop_example_g00556_impl_errFc {H : Type} : DataW H := .iface "*errors.errorString" (.ptr (.agg [.lit (.string [116, 97, 98, 108, 101, 58, 32, 110, 111, 32, 115, 117, 99, 104, 32, 70, 99])]))
def laid_loop_example_g00556_impl_errValue {H : Type} : DataW H := .iface "*errors.errorString" (.ptr (.agg [.lit (.string [116, 97, 98, 108, 101, 58, 32, 110, 111, 116, 32, 116, 104, 101, 32, 98, 121, 116, 101, 115, 32, 111, 102, 32, 97, 32, 114, 105, 103, 104, 116, 32, 113, 117, 101, 115, 116, 105, 111, 110])]))
def laid_loop_example_g00556_impl_errPlace {H : Type} : DataW H := .iface "*errors.errorString" (.ptr (.agg [.lit (.string [116, 97, 98, 108, 101, 58, 32, 110, 111, 32, 115, 117, 99, 104, 32, 112, 108, 97, 99, 101])]))

/-- 'laws.FnExactServe': WHATEVER THE INPUT: true; the input reads as it did. -/
def fnExactServeSpec : ChangeSpec := { name := "fnExactServe", vars := ["loop.example/g00556/impl.errFc", "loop.example/g00556/impl.errValue", "loop.example/g00556/impl.errPlace"], fn := fun _ => fun
  | [d1, d2, g1, g2, g3] => { results := [.lit (.bool true)], args := [d1, d2], vars := [g1, g2, g3] }
  | _ => none }
def fnExactServeRow : OpenClaim := { program := "ytfpibedloodjlabdoor", sum := "829a918ce1b5bf292cd94ab8691002f8537d7fae9798a901b6e64e0b1d5cdce5", func := "loop.example/g00556/laws.FnExactServe", spec := "fnExactServe", inPlace := ["internal/reflectlite.TypeOf"], unfollowed := true, recurses := true, named := ["loop.example/g00556/impl.errFc", "loop.example/g00556/impl.errValue", "loop.example/g00556/impl.errPlace"], ifaces := true, apart := false, laid := [("loop.example/g00556/impl.errFc", laid_loop_example_g00556_impl_errFc), ("loop.example/g00556/impl.errValue", laid_loop_example_g00556_impl_errValue), ("loop.example/g00556/impl.errPlace", laid_loop_example_g00556_impl_errPlace)] }
def FnExactServeSaid : Prop := fnExactServeRow.holds Tryd.pinned (OpenSpec.ofChange fnExactServeSpec)

/-- ITS FALSE NEIGHBOUR: 'it returns false'. Refute it at one input. -/
def fnExactServeWrong : ChangeSpec := { name := "fnExactServe", vars := ["loop.example/g00556/impl.errFc", "loop.example/g00556/impl.errValue", "loop.example/g00556/impl.errPlace"], fn := fun _ => fun
  | [d1, d2, g1, g2, g3] => { results := [.lit (.bool false)], args := [d1, d2], vars := [g1, g2, g3] }
  | _ => none }
def FnExactServeWrongFalsely : Prop := fnExactServeRow.holds Tryd.pinned (OpenSpec.ofChange fnExactServeWrong)

/- THE SECOND FORM. 'bulk': how many values and letters a reading holds, each counted each time it is reached (what is shared counts as often as it is met; a slice's spare places count too). A statement '..UptoSaid' is the law's where the arguments, and the package variables that the reading takes, are together of bulk at most 1048576: NARROWER than '..Said'. Prove '..Said' where nothing that the law and all that it calls make is longer than what came in: it says more and counts as full. Else prove '..UptoSaid'. A law counts once. -/
mutual
def uptoBulk {H : Type} : DataW H → Nat
  | .lit (.string bytes) => bytes.length + 1
  | .lit _ => 1
  | .nil => 1
  | .ptr d => uptoBulk d + 1
  | .slice elems spare => uptoBulkAll elems + uptoBulkAll spare + 1
  | .agg parts => uptoBulkAll parts + 1
  | .iface _ d => uptoBulk d + 1
  | .map entries => uptoBulkEntries entries + 1
  | .held _ => 1
def uptoBulkAll {H : Type} : List (DataW H) → Nat
  | [] => 0
  | d :: r => uptoBulk d + uptoBulkAll r
def uptoBulkEntries {H : Type} : List (Lit × DataW H) → Nat
  | [] => 0
  | x :: r => uptoBulkEntry x + uptoBulkEntries r
def uptoBulkEntry {H : Type} : Lit × DataW H → Nat
  | (.string bytes, d) => bytes.length + uptoBulk d + 1
  | (_, d) => uptoBulk d + 1
 end
def uptoSmall : (H : Type) → List (DataW H) → Bool := fun _ ds => decide (uptoBulkAll ds ≤ 1048576)
def OpenSpec.upto (s : _root_.Go.ChangeSpec) : _root_.Go.OpenSpec := { _root_.Go.OpenSpec.ofChange s with cond := some uptoSmall }

/-- 'laws.FnExactServe', WHERE WHAT IT READS IS OF BULK AT MOST 1048576: true; the input reads as it did. -/
def fnExactServeUptoRow : OpenClaim := { program := "ytfpibedloodjlabdoor", sum := "829a918ce1b5bf292cd94ab8691002f8537d7fae9798a901b6e64e0b1d5cdce5", func := "loop.example/g00556/laws.FnExactServe", spec := "fnExactServe", inPlace := ["internal/reflectlite.TypeOf"], unfollowed := true, recurses := true, named := ["loop.example/g00556/impl.errFc", "loop.example/g00556/impl.errValue", "loop.example/g00556/impl.errPlace"], ifaces := true, apart := false, laid := [("loop.example/g00556/impl.errFc", laid_loop_example_g00556_impl_errFc), ("loop.example/g00556/impl.errValue", laid_loop_example_g00556_impl_errValue), ("loop.example/g00556/impl.errPlace", laid_loop_example_g00556_impl_errPlace)], narrowed := true }
def FnExactServeUptoSaid : Prop := fnExactServeUptoRow.holds Tryd.pinned (OpenSpec.upto fnExactServeSpec)

end Rows
end Go.Proofs.YtfpibedloodjlabDoor
