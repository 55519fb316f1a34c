/-
  DERIVED. GIVEN WITH THE SEED: THE CARDS: each row of YtmkjocamknhcbabDoorRows.lean that lists a variable, with what it lists TIED to the program's text (the seventh form; the later family's looks); each row that meets fmt, with fmt's text TOLD by the authors' own Lean function (tested against real Go, not proved from fmt's source: count such statements apart). THE CARD IS WHAT COUNTS. Prove the row's statement (the work); the ties are given (YtmkjocamknhcbabDoorTie.lean); close each card by the builder's one call (the guide's Derived/Test/ToyasCard.lean, 'card_holds'). Laid BY PROGRAM, IN A SANDBOX (cutbox-door.mjs). By AI agents, Wed Nov 11 2026. No macro, syntax, notation, axiom, sorry.
-/
import Derived.Test.YtmkjocamknhcbabDoorRows
import GoSem.ClaimSeven
namespace Go.Proofs.YtmkjocamknhcbabDoor
namespace Rows

/-- THE TIED CARD OF 'laws.FnExactBaseSubject'. -/
def fnExactBaseSubjectCard : Claim7 := { stood := { row := fnExactBaseSubjectRow, standIns := [], harness := (true, "c9162928d35dbfdd2c52b7d18904ab941c08a67684f196d5d3523229ae4b31e4"), looks := false }, kinds := [], alts := [], laidByText := true, laidKinds := [.data, .pinned], laidTests := true, laidLooks := .later }
def FnExactBaseSubjectCardSaid : Prop := Claim7.holds Tryd.pinned (.plain (OpenSpec.ofChange fnExactBaseSubjectSpec)) fnExactBaseSubjectCard

/-- THE SECOND FORM's CARD OF 'laws.FnExactBaseSubject'. -/
def fnExactBaseSubjectUptoCard : Claim7 := { stood := { row := fnExactBaseSubjectUptoRow, standIns := [], harness := (true, "c9162928d35dbfdd2c52b7d18904ab941c08a67684f196d5d3523229ae4b31e4"), looks := false }, kinds := [], alts := [], laidByText := true, laidKinds := [.data, .pinned], laidTests := true, laidLooks := .later }
def FnExactBaseSubjectUptoCardSaid : Prop := Claim7.holds Tryd.pinned (.plain (OpenSpec.upto fnExactBaseSubjectSpec)) fnExactBaseSubjectUptoCard
end Rows
end Go.Proofs.YtmkjocamknhcbabDoor
