/-
  DERIVED. GIVEN WITH THE SEED: THE CARDS: each row of YtmkjocamknhcbaaDoorRows.lean that lists a variable, with what it lists TIED to the program's text (the seventh form; the later family's looks); each row that meets fmt, with fmt's text TOLD by the authors' own Lean function (tested against real Go, not proved from fmt's source: count such statements apart). THE CARD IS WHAT COUNTS. Prove the row's statement (the work); the ties are given (YtmkjocamknhcbaaDoorTie.lean); close each card by the builder's one call (the guide's Derived/Test/ToyasCard.lean, 'card_holds'). Laid BY PROGRAM, IN A SANDBOX (cutbox-door.mjs). By AI agents, Wed Nov 11 2026. No macro, syntax, notation, axiom, sorry.
-/
import Derived.Test.YtmkjocamknhcbaaDoorRows
import GoSem.ClaimSeven
namespace Go.Proofs.YtmkjocamknhcbaaDoor
namespace Rows

/-- THE TIED CARD OF 'laws.FnMails'. -/
def fnMailsCard : Claim7 := { stood := { row := fnMailsRow, standIns := [], harness := (true, "a1c306e696424ef11c87f8541693fd3724a713c80fefd2c743b8aa5692feabbd"), looks := false }, kinds := [], alts := [], laidByText := true, laidKinds := [.data, .pinned], laidTests := true, laidLooks := .later }
def FnMailsCardSaid : Prop := Claim7.holds Tryd.pinned (.plain (OpenSpec.ofChange fnMailsSpec)) fnMailsCard

/-- THE TIED CARD OF 'laws.FnMailsTold'. -/
def fnMailsToldCard : Claim7 := { stood := { row := fnMailsToldRow, standIns := [], harness := (true, "a1c306e696424ef11c87f8541693fd3724a713c80fefd2c743b8aa5692feabbd"), looks := false }, kinds := [], alts := [], laidByText := true, laidKinds := [.data, .pinned], laidTests := true, laidLooks := .later }
def FnMailsToldCardSaid : Prop := Claim7.holds Tryd.pinned (.plain (OpenSpec.ofChange fnMailsToldSpec)) fnMailsToldCard

/-- THE TIED CARD OF 'laws.FnSubjects'. -/
def fnSubjectsCard : Claim7 := { stood := { row := fnSubjectsRow, standIns := [], harness := (true, "a1c306e696424ef11c87f8541693fd3724a713c80fefd2c743b8aa5692feabbd"), looks := false }, kinds := [], alts := [], laidByText := true, laidKinds := [.data, .pinned], laidTests := true, laidLooks := .later }
def FnSubjectsCardSaid : Prop := Claim7.holds Tryd.pinned (.plain (OpenSpec.ofChange fnSubjectsSpec)) fnSubjectsCard

/-- THE TIED CARD OF 'laws.FnExactHeadOf'. -/
def fnExactHeadOfCard : Claim7 := { stood := { row := fnExactHeadOfRow, standIns := [], harness := (true, "a1c306e696424ef11c87f8541693fd3724a713c80fefd2c743b8aa5692feabbd"), looks := false }, kinds := [], alts := [], laidByText := true, laidKinds := [.data, .pinned], laidTests := true, laidLooks := .later }
def FnExactHeadOfCardSaid : Prop := Claim7.holds Tryd.pinned (.plain (OpenSpec.ofChange fnExactHeadOfSpec)) fnExactHeadOfCard

/-- THE SECOND FORM's CARD OF 'laws.FnMails'. -/
def fnMailsUptoCard : Claim7 := { stood := { row := fnMailsUptoRow, standIns := [], harness := (true, "a1c306e696424ef11c87f8541693fd3724a713c80fefd2c743b8aa5692feabbd"), looks := false }, kinds := [], alts := [], laidByText := true, laidKinds := [.data, .pinned], laidTests := true, laidLooks := .later }
def FnMailsUptoCardSaid : Prop := Claim7.holds Tryd.pinned (.plain (OpenSpec.upto fnMailsSpec)) fnMailsUptoCard

/-- THE SECOND FORM's CARD OF 'laws.FnMailsTold'. -/
def fnMailsToldUptoCard : Claim7 := { stood := { row := fnMailsToldUptoRow, standIns := [], harness := (true, "a1c306e696424ef11c87f8541693fd3724a713c80fefd2c743b8aa5692feabbd"), looks := false }, kinds := [], alts := [], laidByText := true, laidKinds := [.data, .pinned], laidTests := true, laidLooks := .later }
def FnMailsToldUptoCardSaid : Prop := Claim7.holds Tryd.pinned (.plain (OpenSpec.upto fnMailsToldSpec)) fnMailsToldUptoCard

/-- THE SECOND FORM's CARD OF 'laws.FnSubjects'. -/
def fnSubjectsUptoCard : Claim7 := { stood := { row := fnSubjectsUptoRow, standIns := [], harness := (true, "a1c306e696424ef11c87f8541693fd3724a713c80fefd2c743b8aa5692feabbd"), looks := false }, kinds := [], alts := [], laidByText := true, laidKinds := [.data, .pinned], laidTests := true, laidLooks := .later }
def FnSubjectsUptoCardSaid : Prop := Claim7.holds Tryd.pinned (.plain (OpenSpec.upto fnSubjectsSpec)) fnSubjectsUptoCard

/-- THE SECOND FORM's CARD OF 'laws.FnExactHeadOf'. -/
def fnExactHeadOfUptoCard : Claim7 := { stood := { row := fnExactHeadOfUptoRow, standIns := [], harness := (true, "a1c306e696424ef11c87f8541693fd3724a713c80fefd2c743b8aa5692feabbd"), looks := false }, kinds := [], alts := [], laidByText := true, laidKinds := [.data, .pinned], laidTests := true, laidLooks := .later }
def FnExactHeadOfUptoCardSaid : Prop := Claim7.holds Tryd.pinned (.plain (OpenSpec.upto fnExactHeadOfSpec)) fnExactHeadOfUptoCard
end Rows
end Go.Proofs.YtmkjocamknhcbaaDoor
