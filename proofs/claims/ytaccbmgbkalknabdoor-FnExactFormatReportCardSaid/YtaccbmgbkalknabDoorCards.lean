/-
  DERIVED. GIVEN WITH THE SEED: THE CARDS: each row of YtaccbmgbkalknabDoorRows.lean that lists a variable, with what it lists TIED to the program's text (the seventh form; the later family's looks); each row that meets fmt, with fmt's text TOLD by the authors' own Lean function (tested against real Go, not proved from fmt's source: count such statements apart). THE CARD IS WHAT COUNTS. Prove the row's statement (the work); the ties are given (YtaccbmgbkalknabDoorTie.lean); close each card by the builder's one call (the guide's Derived/Test/ToyasCard.lean, 'card_holds'). Laid BY PROGRAM, IN A SANDBOX (cutbox-door.mjs). By AI agents, Wed Nov 11 2026. No macro, syntax, notation, axiom, sorry.
-/
import Derived.Test.YtaccbmgbkalknabDoorRows
import GoSem.ClaimSeven
namespace Go.Proofs.YtaccbmgbkalknabDoor
namespace Rows

/-- THE TIED CARD OF 'laws.FnFormatReport'. -/
def fnFormatReportCard : Claim7 := { stood := { row := fnFormatReportRow, standIns := [], harness := (true, "86463b6708f9e572c618c87e028f2c6bd374ae029033d4859e6cb22378ec4783"), looks := false }, kinds := [], alts := [], laidByText := true, laidKinds := [.data, .data, .data, .data], laidTests := true, laidLooks := .later }
def FnFormatReportCardSaid : Prop := Claim7.holds Tryd.pinned (.plain (OpenSpec.ofChange fnFormatReportSpec)) fnFormatReportCard

/-- THE TIED CARD OF 'laws.FnReportCounts'. -/
def fnReportCountsCard : Claim7 := { stood := { row := fnReportCountsRow, standIns := [], harness := (true, "86463b6708f9e572c618c87e028f2c6bd374ae029033d4859e6cb22378ec4783"), looks := false }, kinds := [], alts := [], laidByText := true, laidKinds := [.data, .data, .data, .data], laidTests := true, laidLooks := .later }
def FnReportCountsCardSaid : Prop := Claim7.holds Tryd.pinned (.plain (OpenSpec.ofChange fnReportCountsSpec)) fnReportCountsCard

/-- THE TIED CARD OF 'laws.FnExactFormatReport'. -/
def fnExactFormatReportCard : Claim7 := { stood := { row := fnExactFormatReportRow, standIns := [], harness := (true, "86463b6708f9e572c618c87e028f2c6bd374ae029033d4859e6cb22378ec4783"), looks := false }, kinds := [], alts := [], laidByText := true, laidKinds := [.data, .data, .data, .data], laidTests := true, laidLooks := .later }
def FnExactFormatReportCardSaid : Prop := Claim7.holds Tryd.pinned (.plain (OpenSpec.ofChange fnExactFormatReportSpec)) fnExactFormatReportCard

/-- THE SECOND FORM's CARD OF 'laws.FnFormatReport'. -/
def fnFormatReportUptoCard : Claim7 := { stood := { row := fnFormatReportUptoRow, standIns := [], harness := (true, "86463b6708f9e572c618c87e028f2c6bd374ae029033d4859e6cb22378ec4783"), looks := false }, kinds := [], alts := [], laidByText := true, laidKinds := [.data, .data, .data, .data], laidTests := true, laidLooks := .later }
def FnFormatReportUptoCardSaid : Prop := Claim7.holds Tryd.pinned (.plain (OpenSpec.upto fnFormatReportSpec)) fnFormatReportUptoCard

/-- THE SECOND FORM's CARD OF 'laws.FnReportCounts'. -/
def fnReportCountsUptoCard : Claim7 := { stood := { row := fnReportCountsUptoRow, standIns := [], harness := (true, "86463b6708f9e572c618c87e028f2c6bd374ae029033d4859e6cb22378ec4783"), looks := false }, kinds := [], alts := [], laidByText := true, laidKinds := [.data, .data, .data, .data], laidTests := true, laidLooks := .later }
def FnReportCountsUptoCardSaid : Prop := Claim7.holds Tryd.pinned (.plain (OpenSpec.upto fnReportCountsSpec)) fnReportCountsUptoCard

/-- THE SECOND FORM's CARD OF 'laws.FnExactFormatReport'. -/
def fnExactFormatReportUptoCard : Claim7 := { stood := { row := fnExactFormatReportUptoRow, standIns := [], harness := (true, "86463b6708f9e572c618c87e028f2c6bd374ae029033d4859e6cb22378ec4783"), looks := false }, kinds := [], alts := [], laidByText := true, laidKinds := [.data, .data, .data, .data], laidTests := true, laidLooks := .later }
def FnExactFormatReportUptoCardSaid : Prop := Claim7.holds Tryd.pinned (.plain (OpenSpec.upto fnExactFormatReportSpec)) fnExactFormatReportUptoCard
end Rows
end Go.Proofs.YtaccbmgbkalknabDoor
