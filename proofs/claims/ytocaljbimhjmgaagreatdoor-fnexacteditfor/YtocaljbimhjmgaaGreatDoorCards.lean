/-
  DERIVED. GIVEN WITH THE SEED: THE CARDS: each row of YtocaljbimhjmgaaGreatDoorRows.lean that lists a variable, with what it lists TIED to the program's text (the seventh form; the later family's looks); each row that meets fmt, with fmt's text TOLD by the authors' own Lean function (tested against real Go, not proved from fmt's source: count such statements apart). THE CARD IS WHAT COUNTS. Prove the row's statement (the work); the ties are given (YtocaljbimhjmgaaGreatDoorTie.lean); close each card by the builder's one call (the guide's Derived/Test/ToyasCard.lean, 'card_holds'). Laid BY PROGRAM, IN A SANDBOX (cutbox-door.mjs). By AI agents, Wed Nov 11 2026. No macro, syntax, notation, axiom, sorry.
-/
import Derived.Test.YtocaljbimhjmgaaGreatDoorRows
import GoSem.ClaimSeven
namespace Go.Proofs.YtocaljbimhjmgaaGreatDoor
namespace Rows

/-- THE TIED CARD OF 'laws.FnExactEditFor'. -/
def fnExactEditForCard : Claim7 := { stood := { row := fnExactEditForRow, standIns := [], harness := (true, "f78ea3722f60498b99aad71aa62d2e39d7f71326322a4d8a591fdd144c29b0bb"), looks := true }, kinds := [], alts := [], laidByText := true, laidKinds := [.data, .data, .data, .data, .sentinel, .sentinel, .data, .pinned], laidTests := true, laidLooks := .later }
def FnExactEditForCardSaid : Prop := Claim7.holds Tryz.pinned (.plain (OpenSpec.ofChange fnExactEditForSpec)) fnExactEditForCard

/-- THE SECOND FORM's CARD OF 'laws.FnExactEditFor'. -/
def fnExactEditForUptoCard : Claim7 := { stood := { row := fnExactEditForUptoRow, standIns := [], harness := (true, "f78ea3722f60498b99aad71aa62d2e39d7f71326322a4d8a591fdd144c29b0bb"), looks := true }, kinds := [], alts := [], laidByText := true, laidKinds := [.data, .data, .data, .data, .sentinel, .sentinel, .data, .pinned], laidTests := true, laidLooks := .later }
def FnExactEditForUptoCardSaid : Prop := Claim7.holds Tryz.pinned (.plain (OpenSpec.upto fnExactEditForSpec)) fnExactEditForUptoCard
end Rows
end Go.Proofs.YtocaljbimhjmgaaGreatDoor
