/-
  DERIVED. GIVEN WITH THE SEED: THE CARDS: each row of YtkmphclmealkeaaGreatDoorRows.lean that lists a variable, with what it lists TIED to the program's text (the seventh form; the later family's looks); each row that meets fmt, with fmt's text TOLD by the authors' own Lean function (tested against real Go, not proved from fmt's source: count such statements apart). THE CARD IS WHAT COUNTS. Prove the row's statement (the work); the ties are given (YtkmphclmealkeaaGreatDoorTie.lean); close each card by the builder's one call (the guide's Derived/Test/ToyasCard.lean, 'card_holds'). Laid BY PROGRAM, IN A SANDBOX (cutbox-door.mjs). By AI agents, Wed Nov 11 2026. No macro, syntax, notation, axiom, sorry.
-/
import Derived.Test.YtkmphclmealkeaaGreatDoorRows
import GoSem.ClaimSeven
namespace Go.Proofs.YtkmphclmealkeaaGreatDoor
namespace Rows

/-- THE TIED CARD OF 'laws.FnSetTexts'. -/
def fnSetTextsCard : Claim7 := { stood := { row := fnSetTextsRow, standIns := [], harness := (true, "b14d9745cb9a2c0288c800596b4ed4f06ec60529a66b5d32f44a38b69392ff8f"), looks := true }, kinds := [], alts := [], laidByText := true, laidKinds := [.data, .data, .data, .data, .sentinel, .sentinel, .pinned], laidTests := true, laidLooks := .later }
def FnSetTextsCardSaid : Prop := Claim7.holds Tryz.pinned (.plain (OpenSpec.ofChange fnSetTextsSpec)) fnSetTextsCard

/-- THE TIED CARD OF 'laws.FnSetsTold'. -/
def fnSetsToldCard : Claim7 := { stood := { row := fnSetsToldRow, standIns := [], harness := (true, "b14d9745cb9a2c0288c800596b4ed4f06ec60529a66b5d32f44a38b69392ff8f"), looks := true }, kinds := [], alts := [], laidByText := true, laidKinds := [.data, .data, .data, .data, .sentinel, .sentinel, .pinned], laidTests := true, laidLooks := .later }
def FnSetsToldCardSaid : Prop := Claim7.holds Tryz.pinned (.plain (OpenSpec.ofChange fnSetsToldSpec)) fnSetsToldCard

/-- THE SECOND FORM's CARD OF 'laws.FnSetTexts'. -/
def fnSetTextsUptoCard : Claim7 := { stood := { row := fnSetTextsUptoRow, standIns := [], harness := (true, "b14d9745cb9a2c0288c800596b4ed4f06ec60529a66b5d32f44a38b69392ff8f"), looks := true }, kinds := [], alts := [], laidByText := true, laidKinds := [.data, .data, .data, .data, .sentinel, .sentinel, .pinned], laidTests := true, laidLooks := .later }
def FnSetTextsUptoCardSaid : Prop := Claim7.holds Tryz.pinned (.plain (OpenSpec.upto fnSetTextsSpec)) fnSetTextsUptoCard

/-- THE SECOND FORM's CARD OF 'laws.FnSetsTold'. -/
def fnSetsToldUptoCard : Claim7 := { stood := { row := fnSetsToldUptoRow, standIns := [], harness := (true, "b14d9745cb9a2c0288c800596b4ed4f06ec60529a66b5d32f44a38b69392ff8f"), looks := true }, kinds := [], alts := [], laidByText := true, laidKinds := [.data, .data, .data, .data, .sentinel, .sentinel, .pinned], laidTests := true, laidLooks := .later }
def FnSetsToldUptoCardSaid : Prop := Claim7.holds Tryz.pinned (.plain (OpenSpec.upto fnSetsToldSpec)) fnSetsToldUptoCard
end Rows
end Go.Proofs.YtkmphclmealkeaaGreatDoor
