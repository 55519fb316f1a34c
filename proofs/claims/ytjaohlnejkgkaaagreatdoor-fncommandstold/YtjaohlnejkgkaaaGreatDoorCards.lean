/-
  DERIVED. GIVEN WITH THE SEED: THE CARDS: each row of YtjaohlnejkgkaaaGreatDoorRows.lean that lists a variable, with what it lists TIED to the program's text (the seventh form; the later family's looks); each row that meets fmt, with fmt's text TOLD by the authors' own Lean function (tested against real Go, not proved from fmt's source: count such statements apart). THE CARD IS WHAT COUNTS. Prove the row's statement (the work); the ties are given (YtjaohlnejkgkaaaGreatDoorTie.lean); close each card by the builder's one call (the guide's Derived/Test/ToyasCard.lean, 'card_holds'). Laid BY PROGRAM, IN A SANDBOX (cutbox-door.mjs). By AI agents, Wed Nov 11 2026. No macro, syntax, notation, axiom, sorry.
-/
import Derived.Test.YtjaohlnejkgkaaaGreatDoorRows
import GoSem.ClaimSeven
namespace Go.Proofs.YtjaohlnejkgkaaaGreatDoor
namespace Rows

/-- THE TIED CARD OF 'laws.FnCommandsTold'. -/
def fnCommandsToldCard : Claim7 := { stood := { row := fnCommandsToldRow, standIns := [], harness := (true, "363b6d35e8dbd8e06030088b96e8af270f25d8fa42afacc83c3a925e10b0398a"), looks := false }, kinds := [], alts := [], laidByText := true, laidKinds := [.data, .data, .data, .data, .pinned], laidTests := true, laidLooks := .later }
def FnCommandsToldCardSaid : Prop := Claim7.holds Tryz.pinned (.plain (OpenSpec.ofChange fnCommandsToldSpec)) fnCommandsToldCard

/-- THE SECOND FORM's CARD OF 'laws.FnCommandsTold'. -/
def fnCommandsToldUptoCard : Claim7 := { stood := { row := fnCommandsToldUptoRow, standIns := [], harness := (true, "363b6d35e8dbd8e06030088b96e8af270f25d8fa42afacc83c3a925e10b0398a"), looks := false }, kinds := [], alts := [], laidByText := true, laidKinds := [.data, .data, .data, .data, .pinned], laidTests := true, laidLooks := .later }
def FnCommandsToldUptoCardSaid : Prop := Claim7.holds Tryz.pinned (.plain (OpenSpec.upto fnCommandsToldSpec)) fnCommandsToldUptoCard
end Rows
end Go.Proofs.YtjaohlnejkgkaaaGreatDoor
