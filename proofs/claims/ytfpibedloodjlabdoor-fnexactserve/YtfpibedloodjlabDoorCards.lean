/-
  DERIVED. GIVEN WITH THE SEED: THE CARDS: each row of YtfpibedloodjlabDoorRows.lean that lists a variable, with what it lists TIED to the program's text (the seventh form; the later family's looks); each row that meets fmt, with fmt's text TOLD by the authors' own Lean function (tested against real Go, not proved from fmt's source: count such statements apart). THE CARD IS WHAT COUNTS. Prove the row's statement (the work); the ties are given (YtfpibedloodjlabDoorTie.lean); close each card by the builder's one call (the guide's Derived/Test/ToyasCard.lean, 'card_holds'). Laid BY PROGRAM, IN A SANDBOX (cutbox-door.mjs). By AI agents, Wed Nov 11 2026. No macro, syntax, notation, axiom, sorry.
-/
import Derived.Test.YtfpibedloodjlabDoorRows
import GoSem.ClaimSeven
namespace Go.Proofs.YtfpibedloodjlabDoor
namespace Rows

/-- THE TIED CARD OF 'laws.FnExactServe'. -/
def fnExactServeCard : Claim7 := { stood := { row := fnExactServeRow, standIns := [], harness := (true, "424d9e4402c1c828b6febdfe1fd16edd7ddfe86ce935a347887915f33f9f333a"), looks := true }, kinds := [], alts := [], laidByText := true, laidKinds := [.sentinel, .sentinel, .sentinel], laidTests := true, laidLooks := .later }
def FnExactServeCardSaid : Prop := Claim7.holds Tryd.pinned (.plain (OpenSpec.ofChange fnExactServeSpec)) fnExactServeCard

/-- THE SECOND FORM's CARD OF 'laws.FnExactServe'. -/
def fnExactServeUptoCard : Claim7 := { stood := { row := fnExactServeUptoRow, standIns := [], harness := (true, "424d9e4402c1c828b6febdfe1fd16edd7ddfe86ce935a347887915f33f9f333a"), looks := true }, kinds := [], alts := [], laidByText := true, laidKinds := [.sentinel, .sentinel, .sentinel], laidTests := true, laidLooks := .later }
def FnExactServeUptoCardSaid : Prop := Claim7.holds Tryd.pinned (.plain (OpenSpec.upto fnExactServeSpec)) fnExactServeUptoCard
end Rows
end Go.Proofs.YtfpibedloodjlabDoor
