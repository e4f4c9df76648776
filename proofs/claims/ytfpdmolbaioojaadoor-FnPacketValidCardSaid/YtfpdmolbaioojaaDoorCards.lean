/-
  DERIVED. GIVEN WITH THE SEED: THE CARDS: each row of YtfpdmolbaioojaaDoorRows.lean that lists a variable, with what it lists TIED to the program's text (the seventh form; the later family's looks); each row that meets fmt, with fmt's text TOLD by the authors' own Lean function (tested against real Go, not proved from fmt's source: count such statements apart). THE CARD IS WHAT COUNTS. Prove the row's statement (the work); the ties are given (YtfpdmolbaioojaaDoorTie.lean); close each card by the builder's one call (the guide's Derived/Test/ToyasCard.lean, 'card_holds'). Laid BY PROGRAM, IN A SANDBOX (cutbox-door.mjs). By AI agents, Wed Nov 11 2026. No macro, syntax, notation, axiom, sorry.
-/
import Derived.Test.YtfpdmolbaioojaaDoorRows
import GoSem.ClaimSeven
namespace Go.Proofs.YtfpdmolbaioojaaDoor
namespace Rows

/-- THE TIED CARD OF 'laws.FnPacketText'. -/
def fnPacketTextCard : Claim7 := { stood := { row := fnPacketTextRow, standIns := [], harness := (true, "99fe47ee4f4a3c6e7d24a51c320ef2147bb9bf898cd5f0eeacccb08ea829c687"), looks := false }, kinds := [], alts := [], laidByText := true, laidKinds := [.data, .data, .data], laidTests := true, laidLooks := .later }
def FnPacketTextCardSaid : Prop := Claim7.holds Tryd.pinned (.plain (OpenSpec.ofChange fnPacketTextSpec)) fnPacketTextCard

/-- THE TIED CARD OF 'laws.FnPacketsText'. -/
def fnPacketsTextCard : Claim7 := { stood := { row := fnPacketsTextRow, standIns := [], harness := (true, "99fe47ee4f4a3c6e7d24a51c320ef2147bb9bf898cd5f0eeacccb08ea829c687"), looks := false }, kinds := [], alts := [], laidByText := true, laidKinds := [.data, .data, .data, .data, .pinned], laidTests := true, laidLooks := .later }
def FnPacketsTextCardSaid : Prop := Claim7.holds Tryd.pinned (.plain (OpenSpec.ofChange fnPacketsTextSpec)) fnPacketsTextCard

/-- THE TIED CARD OF 'laws.FnPacketsSame'. -/
def fnPacketsSameCard : Claim7 := { stood := { row := fnPacketsSameRow, standIns := [], harness := (true, "99fe47ee4f4a3c6e7d24a51c320ef2147bb9bf898cd5f0eeacccb08ea829c687"), looks := false }, kinds := [], alts := [], laidByText := true, laidKinds := [.data, .data, .data], laidTests := true, laidLooks := .later }
def FnPacketsSameCardSaid : Prop := Claim7.holds Tryd.pinned (.plain (OpenSpec.ofChange fnPacketsSameSpec)) fnPacketsSameCard

/-- THE TIED CARD OF 'laws.FnParseMany'. -/
def fnParseManyCard : Claim7 := { stood := { row := fnParseManyRow, standIns := [], harness := (true, "99fe47ee4f4a3c6e7d24a51c320ef2147bb9bf898cd5f0eeacccb08ea829c687"), looks := false }, kinds := [], alts := [], laidByText := true, laidKinds := [.data, .pinned], laidTests := true, laidLooks := .later }
def FnParseManyCardSaid : Prop := Claim7.holds Tryd.pinned (.plain (OpenSpec.ofChange fnParseManySpec)) fnParseManyCard

/-- THE TIED CARD OF 'laws.FnPacketValid'. -/
def fnPacketValidCard : Claim7 := { stood := { row := fnPacketValidRow, standIns := [], harness := (true, "99fe47ee4f4a3c6e7d24a51c320ef2147bb9bf898cd5f0eeacccb08ea829c687"), looks := false }, kinds := [], alts := [], laidByText := true, laidKinds := [.data, .data, .data], laidTests := true, laidLooks := .later }
def FnPacketValidCardSaid : Prop := Claim7.holds Tryd.pinned (.plain (OpenSpec.ofChange fnPacketValidSpec)) fnPacketValidCard

/-- THE SECOND FORM's CARD OF 'laws.FnPacketText'. -/
def fnPacketTextUptoCard : Claim7 := { stood := { row := fnPacketTextUptoRow, standIns := [], harness := (true, "99fe47ee4f4a3c6e7d24a51c320ef2147bb9bf898cd5f0eeacccb08ea829c687"), looks := false }, kinds := [], alts := [], laidByText := true, laidKinds := [.data, .data, .data], laidTests := true, laidLooks := .later }
def FnPacketTextUptoCardSaid : Prop := Claim7.holds Tryd.pinned (.plain (OpenSpec.upto fnPacketTextSpec)) fnPacketTextUptoCard

/-- THE SECOND FORM's CARD OF 'laws.FnPacketsText'. -/
def fnPacketsTextUptoCard : Claim7 := { stood := { row := fnPacketsTextUptoRow, standIns := [], harness := (true, "99fe47ee4f4a3c6e7d24a51c320ef2147bb9bf898cd5f0eeacccb08ea829c687"), looks := false }, kinds := [], alts := [], laidByText := true, laidKinds := [.data, .data, .data, .data, .pinned], laidTests := true, laidLooks := .later }
def FnPacketsTextUptoCardSaid : Prop := Claim7.holds Tryd.pinned (.plain (OpenSpec.upto fnPacketsTextSpec)) fnPacketsTextUptoCard

/-- THE SECOND FORM's CARD OF 'laws.FnPacketsSame'. -/
def fnPacketsSameUptoCard : Claim7 := { stood := { row := fnPacketsSameUptoRow, standIns := [], harness := (true, "99fe47ee4f4a3c6e7d24a51c320ef2147bb9bf898cd5f0eeacccb08ea829c687"), looks := false }, kinds := [], alts := [], laidByText := true, laidKinds := [.data, .data, .data], laidTests := true, laidLooks := .later }
def FnPacketsSameUptoCardSaid : Prop := Claim7.holds Tryd.pinned (.plain (OpenSpec.upto fnPacketsSameSpec)) fnPacketsSameUptoCard

/-- THE SECOND FORM's CARD OF 'laws.FnParseMany'. -/
def fnParseManyUptoCard : Claim7 := { stood := { row := fnParseManyUptoRow, standIns := [], harness := (true, "99fe47ee4f4a3c6e7d24a51c320ef2147bb9bf898cd5f0eeacccb08ea829c687"), looks := false }, kinds := [], alts := [], laidByText := true, laidKinds := [.data, .pinned], laidTests := true, laidLooks := .later }
def FnParseManyUptoCardSaid : Prop := Claim7.holds Tryd.pinned (.plain (OpenSpec.upto fnParseManySpec)) fnParseManyUptoCard

/-- THE SECOND FORM's CARD OF 'laws.FnPacketValid'. -/
def fnPacketValidUptoCard : Claim7 := { stood := { row := fnPacketValidUptoRow, standIns := [], harness := (true, "99fe47ee4f4a3c6e7d24a51c320ef2147bb9bf898cd5f0eeacccb08ea829c687"), looks := false }, kinds := [], alts := [], laidByText := true, laidKinds := [.data, .data, .data], laidTests := true, laidLooks := .later }
def FnPacketValidUptoCardSaid : Prop := Claim7.holds Tryd.pinned (.plain (OpenSpec.upto fnPacketValidSpec)) fnPacketValidUptoCard
end Rows
end Go.Proofs.YtfpdmolbaioojaaDoor
