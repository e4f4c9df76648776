/-
  DERIVED. GIVEN WITH THE SEED: THE CARDS: each row of YtlnbhbjibkgjgaaDoorRows.lean that lists a variable, with what it lists TIED to the program's text (the seventh form; the later family's looks); each row that meets fmt, with fmt's text TOLD by the authors' own Lean function (tested against real Go, not proved from fmt's source: count such statements apart). THE CARD IS WHAT COUNTS. Prove the row's statement (the work); the ties are given (YtlnbhbjibkgjgaaDoorTie.lean); close each card by the builder's one call (the guide's Derived/Test/ToyasCard.lean, 'card_holds'). Laid BY PROGRAM, IN A SANDBOX (cutbox-door.mjs). By AI agents, Wed Nov 11 2026. No macro, syntax, notation, axiom, sorry.
-/
import Derived.Test.YtlnbhbjibkgjgaaDoorRows
import GoSem.ClaimSeven
namespace Go.Proofs.YtlnbhbjibkgjgaaDoor
namespace Rows

/-- THE TIED CARD OF 'laws.FnPacketText'. -/
def fnPacketTextCard : Claim7 := { stood := { row := fnPacketTextRow, standIns := [], harness := (true, "717a8c9032576afd565ae8dc0e048ff73733c2d2c0b907ae928ba57d38b6180f"), looks := false }, kinds := [], alts := [], laidByText := true, laidKinds := [.data, .data, .data], laidTests := true, laidLooks := .later }
def FnPacketTextCardSaid : Prop := Claim7.holds Tryd.pinned (.plain (OpenSpec.ofChange fnPacketTextSpec)) fnPacketTextCard

/-- THE TIED CARD OF 'laws.FnPacketsText'. -/
def fnPacketsTextCard : Claim7 := { stood := { row := fnPacketsTextRow, standIns := [], harness := (true, "717a8c9032576afd565ae8dc0e048ff73733c2d2c0b907ae928ba57d38b6180f"), looks := false }, kinds := [], alts := [], laidByText := true, laidKinds := [.data, .data, .data, .data, .pinned], laidTests := true, laidLooks := .later }
def FnPacketsTextCardSaid : Prop := Claim7.holds Tryd.pinned (.plain (OpenSpec.ofChange fnPacketsTextSpec)) fnPacketsTextCard

/-- THE TIED CARD OF 'laws.FnPacketsSame'. -/
def fnPacketsSameCard : Claim7 := { stood := { row := fnPacketsSameRow, standIns := [], harness := (true, "717a8c9032576afd565ae8dc0e048ff73733c2d2c0b907ae928ba57d38b6180f"), looks := false }, kinds := [], alts := [], laidByText := true, laidKinds := [.data, .data, .data], laidTests := true, laidLooks := .later }
def FnPacketsSameCardSaid : Prop := Claim7.holds Tryd.pinned (.plain (OpenSpec.ofChange fnPacketsSameSpec)) fnPacketsSameCard

/-- THE TIED CARD OF 'laws.FnParseMany'. -/
def fnParseManyCard : Claim7 := { stood := { row := fnParseManyRow, standIns := [], harness := (true, "717a8c9032576afd565ae8dc0e048ff73733c2d2c0b907ae928ba57d38b6180f"), looks := false }, kinds := [], alts := [], laidByText := true, laidKinds := [.data, .pinned], laidTests := true, laidLooks := .later }
def FnParseManyCardSaid : Prop := Claim7.holds Tryd.pinned (.plain (OpenSpec.ofChange fnParseManySpec)) fnParseManyCard

/-- THE TIED CARD OF 'laws.FnExactFormatPacket'. -/
def fnExactFormatPacketCard : Claim7 := { stood := { row := fnExactFormatPacketRow, standIns := [], harness := (true, "717a8c9032576afd565ae8dc0e048ff73733c2d2c0b907ae928ba57d38b6180f"), looks := false }, kinds := [], alts := [], laidByText := true, laidKinds := [.data, .data, .data], laidTests := true, laidLooks := .later }
def FnExactFormatPacketCardSaid : Prop := Claim7.holds Tryd.pinned (.plain (OpenSpec.ofChange fnExactFormatPacketSpec)) fnExactFormatPacketCard

/-- THE TIED CARD OF 'laws.FnExactFormatPackets'. -/
def fnExactFormatPacketsCard : Claim7 := { stood := { row := fnExactFormatPacketsRow, standIns := [], harness := (true, "717a8c9032576afd565ae8dc0e048ff73733c2d2c0b907ae928ba57d38b6180f"), looks := false }, kinds := [], alts := [], laidByText := true, laidKinds := [.data, .data, .data], laidTests := true, laidLooks := .later }
def FnExactFormatPacketsCardSaid : Prop := Claim7.holds Tryd.pinned (.plain (OpenSpec.ofChange fnExactFormatPacketsSpec)) fnExactFormatPacketsCard

/-- THE TIED CARD OF 'laws.FnExactParsePackets'. -/
def fnExactParsePacketsCard : Claim7 := { stood := { row := fnExactParsePacketsRow, standIns := [], harness := (true, "717a8c9032576afd565ae8dc0e048ff73733c2d2c0b907ae928ba57d38b6180f"), looks := false }, kinds := [], alts := [], laidByText := true, laidKinds := [.data, .pinned], laidTests := true, laidLooks := .later }
def FnExactParsePacketsCardSaid : Prop := Claim7.holds Tryd.pinned (.plain (OpenSpec.ofChange fnExactParsePacketsSpec)) fnExactParsePacketsCard

/-- THE SECOND FORM's CARD OF 'laws.FnPacketText'. -/
def fnPacketTextUptoCard : Claim7 := { stood := { row := fnPacketTextUptoRow, standIns := [], harness := (true, "717a8c9032576afd565ae8dc0e048ff73733c2d2c0b907ae928ba57d38b6180f"), looks := false }, kinds := [], alts := [], laidByText := true, laidKinds := [.data, .data, .data], laidTests := true, laidLooks := .later }
def FnPacketTextUptoCardSaid : Prop := Claim7.holds Tryd.pinned (.plain (OpenSpec.upto fnPacketTextSpec)) fnPacketTextUptoCard

/-- THE SECOND FORM's CARD OF 'laws.FnPacketsText'. -/
def fnPacketsTextUptoCard : Claim7 := { stood := { row := fnPacketsTextUptoRow, standIns := [], harness := (true, "717a8c9032576afd565ae8dc0e048ff73733c2d2c0b907ae928ba57d38b6180f"), looks := false }, kinds := [], alts := [], laidByText := true, laidKinds := [.data, .data, .data, .data, .pinned], laidTests := true, laidLooks := .later }
def FnPacketsTextUptoCardSaid : Prop := Claim7.holds Tryd.pinned (.plain (OpenSpec.upto fnPacketsTextSpec)) fnPacketsTextUptoCard

/-- THE SECOND FORM's CARD OF 'laws.FnPacketsSame'. -/
def fnPacketsSameUptoCard : Claim7 := { stood := { row := fnPacketsSameUptoRow, standIns := [], harness := (true, "717a8c9032576afd565ae8dc0e048ff73733c2d2c0b907ae928ba57d38b6180f"), looks := false }, kinds := [], alts := [], laidByText := true, laidKinds := [.data, .data, .data], laidTests := true, laidLooks := .later }
def FnPacketsSameUptoCardSaid : Prop := Claim7.holds Tryd.pinned (.plain (OpenSpec.upto fnPacketsSameSpec)) fnPacketsSameUptoCard

/-- THE SECOND FORM's CARD OF 'laws.FnParseMany'. -/
def fnParseManyUptoCard : Claim7 := { stood := { row := fnParseManyUptoRow, standIns := [], harness := (true, "717a8c9032576afd565ae8dc0e048ff73733c2d2c0b907ae928ba57d38b6180f"), looks := false }, kinds := [], alts := [], laidByText := true, laidKinds := [.data, .pinned], laidTests := true, laidLooks := .later }
def FnParseManyUptoCardSaid : Prop := Claim7.holds Tryd.pinned (.plain (OpenSpec.upto fnParseManySpec)) fnParseManyUptoCard

/-- THE SECOND FORM's CARD OF 'laws.FnExactFormatPacket'. -/
def fnExactFormatPacketUptoCard : Claim7 := { stood := { row := fnExactFormatPacketUptoRow, standIns := [], harness := (true, "717a8c9032576afd565ae8dc0e048ff73733c2d2c0b907ae928ba57d38b6180f"), looks := false }, kinds := [], alts := [], laidByText := true, laidKinds := [.data, .data, .data], laidTests := true, laidLooks := .later }
def FnExactFormatPacketUptoCardSaid : Prop := Claim7.holds Tryd.pinned (.plain (OpenSpec.upto fnExactFormatPacketSpec)) fnExactFormatPacketUptoCard

/-- THE SECOND FORM's CARD OF 'laws.FnExactFormatPackets'. -/
def fnExactFormatPacketsUptoCard : Claim7 := { stood := { row := fnExactFormatPacketsUptoRow, standIns := [], harness := (true, "717a8c9032576afd565ae8dc0e048ff73733c2d2c0b907ae928ba57d38b6180f"), looks := false }, kinds := [], alts := [], laidByText := true, laidKinds := [.data, .data, .data], laidTests := true, laidLooks := .later }
def FnExactFormatPacketsUptoCardSaid : Prop := Claim7.holds Tryd.pinned (.plain (OpenSpec.upto fnExactFormatPacketsSpec)) fnExactFormatPacketsUptoCard

/-- THE SECOND FORM's CARD OF 'laws.FnExactParsePackets'. -/
def fnExactParsePacketsUptoCard : Claim7 := { stood := { row := fnExactParsePacketsUptoRow, standIns := [], harness := (true, "717a8c9032576afd565ae8dc0e048ff73733c2d2c0b907ae928ba57d38b6180f"), looks := false }, kinds := [], alts := [], laidByText := true, laidKinds := [.data, .pinned], laidTests := true, laidLooks := .later }
def FnExactParsePacketsUptoCardSaid : Prop := Claim7.holds Tryd.pinned (.plain (OpenSpec.upto fnExactParsePacketsSpec)) fnExactParsePacketsUptoCard
end Rows
end Go.Proofs.YtlnbhbjibkgjgaaDoor
