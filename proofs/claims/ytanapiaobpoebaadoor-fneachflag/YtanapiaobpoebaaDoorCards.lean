/-
  DERIVED. GIVEN WITH THE SEED: THE CARDS: each row of YtanapiaobpoebaaDoorRows.lean that lists a variable, with what it lists TIED to the program's text (the seventh form; the later family's looks); each row that meets fmt, with fmt's text TOLD by the authors' own Lean function (tested against real Go, not proved from fmt's source: count such statements apart). THE CARD IS WHAT COUNTS. Prove the row's statement (the work); the ties are given (YtanapiaobpoebaaDoorTie.lean); close each card by the builder's one call (the guide's Derived/Test/ToyasCard.lean, 'card_holds'). Laid BY PROGRAM, IN A SANDBOX (cutbox-door.mjs). By AI agents, Wed Nov 11 2026. No macro, syntax, notation, axiom, sorry.
-/
import Derived.Test.YtanapiaobpoebaaDoorRows
import GoSem.ClaimSeven
namespace Go.Proofs.YtanapiaobpoebaaDoor
namespace Rows

/-- THE TIED CARD OF 'laws.FnExactReadFlags'. -/
def fnExactReadFlagsCard : Claim7 := { stood := { row := fnExactReadFlagsRow, standIns := [], harness := (true, "b1487d64e713cb34e298b7b01fb7db5cbbb31be6f712ca85b41d73640106634b"), looks := false }, kinds := [], alts := [], laidByText := true, laidKinds := [.data, .data, .pinned], laidTests := true, laidLooks := .later }
def FnExactReadFlagsCardSaid : Prop := Claim7.holds Tryd.pinned (.plain (OpenSpec.ofChange fnExactReadFlagsSpec)) fnExactReadFlagsCard

/-- THE TIED CARD OF 'laws.FnFlags'. -/
def fnFlagsCard : Claim7 := { stood := { row := fnFlagsRow, standIns := [], harness := (true, "b1487d64e713cb34e298b7b01fb7db5cbbb31be6f712ca85b41d73640106634b"), looks := false }, kinds := [], alts := [], laidByText := true, laidKinds := [.data, .data, .pinned], laidTests := true, laidLooks := .later }
def FnFlagsCardSaid : Prop := Claim7.holds Tryd.pinned (.plain (OpenSpec.ofChange fnFlagsSpec)) fnFlagsCard

/-- THE TIED CARD OF 'laws.FnEachFlag'. -/
def fnEachFlagCard : Claim7 := { stood := { row := fnEachFlagRow, standIns := [], harness := (true, "b1487d64e713cb34e298b7b01fb7db5cbbb31be6f712ca85b41d73640106634b"), looks := false }, kinds := [], alts := [], laidByText := true, laidKinds := [.data], laidTests := true, laidLooks := .later }
def FnEachFlagCardSaid : Prop := Claim7.holds Tryd.pinned (.plain (OpenSpec.ofChange fnEachFlagSpec)) fnEachFlagCard

/-- THE SECOND FORM's CARD OF 'laws.FnExactReadFlags'. -/
def fnExactReadFlagsUptoCard : Claim7 := { stood := { row := fnExactReadFlagsUptoRow, standIns := [], harness := (true, "b1487d64e713cb34e298b7b01fb7db5cbbb31be6f712ca85b41d73640106634b"), looks := false }, kinds := [], alts := [], laidByText := true, laidKinds := [.data, .data, .pinned], laidTests := true, laidLooks := .later }
def FnExactReadFlagsUptoCardSaid : Prop := Claim7.holds Tryd.pinned (.plain (OpenSpec.upto fnExactReadFlagsSpec)) fnExactReadFlagsUptoCard

/-- THE SECOND FORM's CARD OF 'laws.FnFlags'. -/
def fnFlagsUptoCard : Claim7 := { stood := { row := fnFlagsUptoRow, standIns := [], harness := (true, "b1487d64e713cb34e298b7b01fb7db5cbbb31be6f712ca85b41d73640106634b"), looks := false }, kinds := [], alts := [], laidByText := true, laidKinds := [.data, .data, .pinned], laidTests := true, laidLooks := .later }
def FnFlagsUptoCardSaid : Prop := Claim7.holds Tryd.pinned (.plain (OpenSpec.upto fnFlagsSpec)) fnFlagsUptoCard

/-- THE SECOND FORM's CARD OF 'laws.FnEachFlag'. -/
def fnEachFlagUptoCard : Claim7 := { stood := { row := fnEachFlagUptoRow, standIns := [], harness := (true, "b1487d64e713cb34e298b7b01fb7db5cbbb31be6f712ca85b41d73640106634b"), looks := false }, kinds := [], alts := [], laidByText := true, laidKinds := [.data], laidTests := true, laidLooks := .later }
def FnEachFlagUptoCardSaid : Prop := Claim7.holds Tryd.pinned (.plain (OpenSpec.upto fnEachFlagSpec)) fnEachFlagUptoCard
end Rows
end Go.Proofs.YtanapiaobpoebaaDoor
