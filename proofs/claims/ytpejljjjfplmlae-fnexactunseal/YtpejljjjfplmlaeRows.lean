/-
  No cell of these rows narrows 'for every input' (looked for: loops, veiled, ifaces, maps, wideKeys, modest, calm, conditions, laid).
  DERIVED. THE GIVEN ROWS OF THIS SEAT. 6 by the template 'for every input the law returns true; each argument reads behind the call as it read before'; 0 by the template 'total and deterministic' (their statements: YtpejljjjfplmlaeTotals.lean).
  GIVEN WITH THE SEED: the statements are not yours to turn. If you find one false, say at which input.
  Laid BY PROGRAM, IN A SANDBOX (cutbox-rows.mjs): the forced cells as the released guide's own fill.sh prints them over the translation 2551619e2450084b… (all of the seat's roots in one cut). By AI agents, Wed Nov 11 2026. No macro, syntax, notation, axiom, sorry.
-/
import Derived.Test.YtpejljjjfplmlaeChecked
import GoSem.Claim
import GoSem.ClaimJoined
import GoSem.ClaimMapViews
import Derived.JoinedTies
import Derived.KernelRfl
namespace Go.Proofs.Ytpejljjjfplmlae
/- THE CELL 'sum', in the pinned program and in every row, IS THE sha256 OF THE DUMP (.gsa) THAT YtpejljjjfplmlaeProg.lean LOADS. Nothing in Lean hashes anything: it is a label: what it is worth is what the hold of that sum in a sandbox is worth. -/
noncomputable def Try.pinned : Pinned := { name := "ytpejljjjfplmlae", sum := "2551619e2450084b706f34d3429f6a44f6af6e1fce528a226950c9ea63d7af1c", checked := Try.checked }
namespace Rows
def none {H : Type} : Left H := { results := [], args := [] }

/-- 'laws.FnExactUnseal': WHATEVER THE INPUT: true; the input reads as it did. -/
def fnExactUnsealSpec : ChangeSpec := { name := "fnExactUnseal", fn := fun _ => fun
  | [d] => { results := [.lit (.bool true)], args := [d] }
  | _ => none }
def fnExactUnsealRow : OpenClaim := { program := "ytpejljjjfplmlae", sum := "2551619e2450084b706f34d3429f6a44f6af6e1fce528a226950c9ea63d7af1c", func := "loop.example/g00556/laws.FnExactUnseal", spec := "fnExactUnseal", apart := false }
def FnExactUnsealSaid : Prop := fnExactUnsealRow.holds Try.pinned (OpenSpec.ofChange fnExactUnsealSpec)

/-- ITS FALSE NEIGHBOUR: 'it returns false'. Refute it at one input. -/
def fnExactUnsealWrong : ChangeSpec := { name := "fnExactUnseal", fn := fun _ => fun
  | [d] => { results := [.lit (.bool false)], args := [d] }
  | _ => none }
def FnExactUnsealWrongFalsely : Prop := fnExactUnsealRow.holds Try.pinned (OpenSpec.ofChange fnExactUnsealWrong)

/-- 'laws.FnExactFcs': WHATEVER THE INPUT: true; the input reads as it did. -/
def fnExactFcsSpec : ChangeSpec := { name := "fnExactFcs", fn := fun _ => fun
  | [d] => { results := [.lit (.bool true)], args := [d] }
  | _ => none }
def fnExactFcsRow : OpenClaim := { program := "ytpejljjjfplmlae", sum := "2551619e2450084b706f34d3429f6a44f6af6e1fce528a226950c9ea63d7af1c", func := "loop.example/g00556/laws.FnExactFcs", spec := "fnExactFcs", apart := false }
def FnExactFcsSaid : Prop := fnExactFcsRow.holds Try.pinned (OpenSpec.ofChange fnExactFcsSpec)

/-- ITS FALSE NEIGHBOUR: 'it returns false'. Refute it at one input. -/
def fnExactFcsWrong : ChangeSpec := { name := "fnExactFcs", fn := fun _ => fun
  | [d] => { results := [.lit (.bool false)], args := [d] }
  | _ => none }
def FnExactFcsWrongFalsely : Prop := fnExactFcsRow.holds Try.pinned (OpenSpec.ofChange fnExactFcsWrong)

/-- 'laws.FnExactFrameText': WHATEVER THE INPUT: true; the input reads as it did. -/
def fnExactFrameTextSpec : ChangeSpec := { name := "fnExactFrameText", fn := fun _ => fun
  | [d] => { results := [.lit (.bool true)], args := [d] }
  | _ => none }
def fnExactFrameTextRow : OpenClaim := { program := "ytpejljjjfplmlae", sum := "2551619e2450084b706f34d3429f6a44f6af6e1fce528a226950c9ea63d7af1c", func := "loop.example/g00556/laws.FnExactFrameText", spec := "fnExactFrameText", apart := false }
def FnExactFrameTextSaid : Prop := fnExactFrameTextRow.holds Try.pinned (OpenSpec.ofChange fnExactFrameTextSpec)

/-- ITS FALSE NEIGHBOUR: 'it returns false'. Refute it at one input. -/
def fnExactFrameTextWrong : ChangeSpec := { name := "fnExactFrameText", fn := fun _ => fun
  | [d] => { results := [.lit (.bool false)], args := [d] }
  | _ => none }
def FnExactFrameTextWrongFalsely : Prop := fnExactFrameTextRow.holds Try.pinned (OpenSpec.ofChange fnExactFrameTextWrong)

/-- 'laws.FnExactFrameRead': WHATEVER THE INPUT: true; the input reads as it did. -/
def fnExactFrameReadSpec : ChangeSpec := { name := "fnExactFrameRead", fn := fun _ => fun
  | [d] => { results := [.lit (.bool true)], args := [d] }
  | _ => none }
def fnExactFrameReadRow : OpenClaim := { program := "ytpejljjjfplmlae", sum := "2551619e2450084b706f34d3429f6a44f6af6e1fce528a226950c9ea63d7af1c", func := "loop.example/g00556/laws.FnExactFrameRead", spec := "fnExactFrameRead", apart := false }
def FnExactFrameReadSaid : Prop := fnExactFrameReadRow.holds Try.pinned (OpenSpec.ofChange fnExactFrameReadSpec)

/-- ITS FALSE NEIGHBOUR: 'it returns false'. Refute it at one input. -/
def fnExactFrameReadWrong : ChangeSpec := { name := "fnExactFrameRead", fn := fun _ => fun
  | [d] => { results := [.lit (.bool false)], args := [d] }
  | _ => none }
def FnExactFrameReadWrongFalsely : Prop := fnExactFrameReadRow.holds Try.pinned (OpenSpec.ofChange fnExactFrameReadWrong)

/-- 'laws.FnExactWireRight': WHATEVER THE INPUT: true; the input reads as it did. -/
def fnExactWireRightSpec : ChangeSpec := { name := "fnExactWireRight", fn := fun _ => fun
  | [d] => { results := [.lit (.bool true)], args := [d] }
  | _ => none }
def fnExactWireRightRow : OpenClaim := { program := "ytpejljjjfplmlae", sum := "2551619e2450084b706f34d3429f6a44f6af6e1fce528a226950c9ea63d7af1c", func := "loop.example/g00556/laws.FnExactWireRight", spec := "fnExactWireRight", apart := false }
def FnExactWireRightSaid : Prop := fnExactWireRightRow.holds Try.pinned (OpenSpec.ofChange fnExactWireRightSpec)

/-- ITS FALSE NEIGHBOUR: 'it returns false'. Refute it at one input. -/
def fnExactWireRightWrong : ChangeSpec := { name := "fnExactWireRight", fn := fun _ => fun
  | [d] => { results := [.lit (.bool false)], args := [d] }
  | _ => none }
def FnExactWireRightWrongFalsely : Prop := fnExactWireRightRow.holds Try.pinned (OpenSpec.ofChange fnExactWireRightWrong)

/-- 'laws.FnExactWireFeed': WHATEVER THE INPUT: true; the input reads as it did. -/
def fnExactWireFeedSpec : ChangeSpec := { name := "fnExactWireFeed", fn := fun _ => fun
  | [d1, d2] => { results := [.lit (.bool true)], args := [d1, d2] }
  | _ => none }
def fnExactWireFeedRow : OpenClaim := { program := "ytpejljjjfplmlae", sum := "2551619e2450084b706f34d3429f6a44f6af6e1fce528a226950c9ea63d7af1c", func := "loop.example/g00556/laws.FnExactWireFeed", spec := "fnExactWireFeed", apart := false }
def FnExactWireFeedSaid : Prop := fnExactWireFeedRow.holds Try.pinned (OpenSpec.ofChange fnExactWireFeedSpec)

/-- ITS FALSE NEIGHBOUR: 'it returns false'. Refute it at one input. -/
def fnExactWireFeedWrong : ChangeSpec := { name := "fnExactWireFeed", fn := fun _ => fun
  | [d1, d2] => { results := [.lit (.bool false)], args := [d1, d2] }
  | _ => none }
def FnExactWireFeedWrongFalsely : Prop := fnExactWireFeedRow.holds Try.pinned (OpenSpec.ofChange fnExactWireFeedWrong)

/- THE SECOND FORM. 'bulk': how many values and letters a reading holds, each counted each time it is reached (what is shared counts as often as it is met; a slice's spare places count too). A statement '..UptoSaid' is the law's where the arguments, and the package variables that the reading takes, are together of bulk at most 1048576: NARROWER than '..Said'. Prove '..Said' where nothing that the law and all that it calls make is longer than what came in: it says more and counts as full. Else prove '..UptoSaid'. A law counts once. -/
mutual
def uptoBulk {H : Type} : DataW H → Nat
  | .lit (.string bytes) => bytes.length + 1
  | .lit _ => 1
  | .nil => 1
  | .ptr d => uptoBulk d + 1
  | .slice elems spare => uptoBulkAll elems + uptoBulkAll spare + 1
  | .agg parts => uptoBulkAll parts + 1
  | .iface _ d => uptoBulk d + 1
  | .map entries => uptoBulkEntries entries + 1
  | .held _ => 1
def uptoBulkAll {H : Type} : List (DataW H) → Nat
  | [] => 0
  | d :: r => uptoBulk d + uptoBulkAll r
def uptoBulkEntries {H : Type} : List (Lit × DataW H) → Nat
  | [] => 0
  | x :: r => uptoBulkEntry x + uptoBulkEntries r
def uptoBulkEntry {H : Type} : Lit × DataW H → Nat
  | (.string bytes, d) => bytes.length + uptoBulk d + 1
  | (_, d) => uptoBulk d + 1
 end
def uptoSmall : (H : Type) → List (DataW H) → Bool := fun _ ds => decide (uptoBulkAll ds ≤ 1048576)
def OpenSpec.upto (s : _root_.Go.ChangeSpec) : _root_.Go.OpenSpec := { _root_.Go.OpenSpec.ofChange s with cond := some uptoSmall }

/-- 'laws.FnExactUnseal', WHERE WHAT IT READS IS OF BULK AT MOST 1048576: true; the input reads as it did. -/
def fnExactUnsealUptoRow : OpenClaim := { program := "ytpejljjjfplmlae", sum := "2551619e2450084b706f34d3429f6a44f6af6e1fce528a226950c9ea63d7af1c", func := "loop.example/g00556/laws.FnExactUnseal", spec := "fnExactUnseal", apart := false, narrowed := true }
def FnExactUnsealUptoSaid : Prop := fnExactUnsealUptoRow.holds Try.pinned (OpenSpec.upto fnExactUnsealSpec)

/-- 'laws.FnExactFcs', WHERE WHAT IT READS IS OF BULK AT MOST 1048576: true; the input reads as it did. -/
def fnExactFcsUptoRow : OpenClaim := { program := "ytpejljjjfplmlae", sum := "2551619e2450084b706f34d3429f6a44f6af6e1fce528a226950c9ea63d7af1c", func := "loop.example/g00556/laws.FnExactFcs", spec := "fnExactFcs", apart := false, narrowed := true }
def FnExactFcsUptoSaid : Prop := fnExactFcsUptoRow.holds Try.pinned (OpenSpec.upto fnExactFcsSpec)

/-- 'laws.FnExactFrameText', WHERE WHAT IT READS IS OF BULK AT MOST 1048576: true; the input reads as it did. -/
def fnExactFrameTextUptoRow : OpenClaim := { program := "ytpejljjjfplmlae", sum := "2551619e2450084b706f34d3429f6a44f6af6e1fce528a226950c9ea63d7af1c", func := "loop.example/g00556/laws.FnExactFrameText", spec := "fnExactFrameText", apart := false, narrowed := true }
def FnExactFrameTextUptoSaid : Prop := fnExactFrameTextUptoRow.holds Try.pinned (OpenSpec.upto fnExactFrameTextSpec)

/-- 'laws.FnExactFrameRead', WHERE WHAT IT READS IS OF BULK AT MOST 1048576: true; the input reads as it did. -/
def fnExactFrameReadUptoRow : OpenClaim := { program := "ytpejljjjfplmlae", sum := "2551619e2450084b706f34d3429f6a44f6af6e1fce528a226950c9ea63d7af1c", func := "loop.example/g00556/laws.FnExactFrameRead", spec := "fnExactFrameRead", apart := false, narrowed := true }
def FnExactFrameReadUptoSaid : Prop := fnExactFrameReadUptoRow.holds Try.pinned (OpenSpec.upto fnExactFrameReadSpec)

/-- 'laws.FnExactWireRight', WHERE WHAT IT READS IS OF BULK AT MOST 1048576: true; the input reads as it did. -/
def fnExactWireRightUptoRow : OpenClaim := { program := "ytpejljjjfplmlae", sum := "2551619e2450084b706f34d3429f6a44f6af6e1fce528a226950c9ea63d7af1c", func := "loop.example/g00556/laws.FnExactWireRight", spec := "fnExactWireRight", apart := false, narrowed := true }
def FnExactWireRightUptoSaid : Prop := fnExactWireRightUptoRow.holds Try.pinned (OpenSpec.upto fnExactWireRightSpec)

/-- 'laws.FnExactWireFeed', WHERE WHAT IT READS IS OF BULK AT MOST 1048576: true; the input reads as it did. -/
def fnExactWireFeedUptoRow : OpenClaim := { program := "ytpejljjjfplmlae", sum := "2551619e2450084b706f34d3429f6a44f6af6e1fce528a226950c9ea63d7af1c", func := "loop.example/g00556/laws.FnExactWireFeed", spec := "fnExactWireFeed", apart := false, narrowed := true }
def FnExactWireFeedUptoSaid : Prop := fnExactWireFeedUptoRow.holds Try.pinned (OpenSpec.upto fnExactWireFeedSpec)

end Rows
end Go.Proofs.Ytpejljjjfplmlae
