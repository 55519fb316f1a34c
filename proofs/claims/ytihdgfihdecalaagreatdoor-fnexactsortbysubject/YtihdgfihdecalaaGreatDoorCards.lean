/-
  DERIVED. GIVEN WITH THE SEED: THE CARDS: each row of YtihdgfihdecalaaGreatDoorRows.lean that lists a variable, with what it lists TIED to the program's text (the seventh form; the later family's looks); each row that meets fmt, with fmt's text TOLD by the authors' own Lean function (tested against real Go, not proved from fmt's source: count such statements apart). THE CARD IS WHAT COUNTS. Prove the row's statement (the work); the ties are given (YtihdgfihdecalaaGreatDoorTie.lean); close each card by the builder's one call (the guide's Derived/Test/ToyasCard.lean, 'card_holds'). Laid BY PROGRAM, IN A SANDBOX (cutbox-door.mjs). By AI agents, Wed Nov 11 2026. No macro, syntax, notation, axiom, sorry.
-/
import Derived.Test.YtihdgfihdecalaaGreatDoorRows
import GoSem.ClaimSeven
namespace Go.Proofs.YtihdgfihdecalaaGreatDoor
namespace Rows

/-- THE TIED CARD OF 'laws.FnExactSortBySubject'. -/
def fnExactSortBySubjectCard : Claim7 := { stood := { row := fnExactSortBySubjectRow, standIns := [], harness := (true, "672461084a985fffe7b217a51a74db338d4c1ee8f5a3b60fee41b155e52e94ba"), looks := false }, kinds := [], alts := [], laidByText := true, laidKinds := [.data, .pinned], laidTests := true, laidLooks := .later }
def FnExactSortBySubjectCardSaid : Prop := Claim7.holds Tryz.pinned (.plain (OpenSpec.ofChange fnExactSortBySubjectSpec)) fnExactSortBySubjectCard

/-- THE TIED CARD OF 'laws.FnExactThreads'. -/
def fnExactThreadsCard : Claim7 := { stood := { row := fnExactThreadsRow, standIns := [], harness := (true, "672461084a985fffe7b217a51a74db338d4c1ee8f5a3b60fee41b155e52e94ba"), looks := false }, kinds := [], alts := [], laidByText := true, laidKinds := [.data, .pinned], laidTests := true, laidLooks := .later }
def FnExactThreadsCardSaid : Prop := Claim7.holds Tryz.pinned (.plain (OpenSpec.ofChange fnExactThreadsSpec)) fnExactThreadsCard

/-- THE SECOND FORM's CARD OF 'laws.FnExactSortBySubject'. -/
def fnExactSortBySubjectUptoCard : Claim7 := { stood := { row := fnExactSortBySubjectUptoRow, standIns := [], harness := (true, "672461084a985fffe7b217a51a74db338d4c1ee8f5a3b60fee41b155e52e94ba"), looks := false }, kinds := [], alts := [], laidByText := true, laidKinds := [.data, .pinned], laidTests := true, laidLooks := .later }
def FnExactSortBySubjectUptoCardSaid : Prop := Claim7.holds Tryz.pinned (.plain (OpenSpec.upto fnExactSortBySubjectSpec)) fnExactSortBySubjectUptoCard

/-- THE SECOND FORM's CARD OF 'laws.FnExactThreads'. -/
def fnExactThreadsUptoCard : Claim7 := { stood := { row := fnExactThreadsUptoRow, standIns := [], harness := (true, "672461084a985fffe7b217a51a74db338d4c1ee8f5a3b60fee41b155e52e94ba"), looks := false }, kinds := [], alts := [], laidByText := true, laidKinds := [.data, .pinned], laidTests := true, laidLooks := .later }
def FnExactThreadsUptoCardSaid : Prop := Claim7.holds Tryz.pinned (.plain (OpenSpec.upto fnExactThreadsSpec)) fnExactThreadsUptoCard
end Rows
end Go.Proofs.YtihdgfihdecalaaGreatDoor
