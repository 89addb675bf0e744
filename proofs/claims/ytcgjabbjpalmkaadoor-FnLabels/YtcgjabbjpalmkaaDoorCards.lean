/-
  DERIVED. GIVEN WITH THE SEED: THE CARDS: each row of YtcgjabbjpalmkaaDoorRows.lean that lists a variable, with what it lists TIED to the program's text (the seventh form; the later family's looks); each row that meets fmt, with fmt's text TOLD by the authors' own Lean function (tested against real Go, not proved from fmt's source: count such statements apart). THE CARD IS WHAT COUNTS. Prove the row's statement (the work); the ties are given (YtcgjabbjpalmkaaDoorTie.lean); close each card by the builder's one call (the guide's Derived/Test/ToyasCard.lean, 'card_holds'). Laid BY PROGRAM, IN A SANDBOX (cutbox-door.mjs). By AI agents, Wed Nov 11 2026. No macro, syntax, notation, axiom, sorry.
-/
import Derived.Test.YtcgjabbjpalmkaaDoorRows
import GoSem.ClaimSeven
namespace Go.Proofs.YtcgjabbjpalmkaaDoor
namespace Rows

/-- THE TIED CARD OF 'laws.FnLabels'. -/
def fnLabelsCard : Claim7 := { stood := { row := fnLabelsRow, standIns := [], harness := (true, "6dfad18276acceb3684c4725d4edc42a687debfd826655a1d9f297a2a69721a4"), looks := false }, kinds := [], alts := [], laidByText := true, laidKinds := [.data, .pinned], laidTests := true, laidLooks := .later }
def FnLabelsCardSaid : Prop := Claim7.holds Tryd.pinned (.plain (OpenSpec.ofChange fnLabelsSpec)) fnLabelsCard

/-- THE TIED CARD OF 'laws.FnNames'. -/
def fnNamesCard : Claim7 := { stood := { row := fnNamesRow, standIns := [], harness := (true, "6dfad18276acceb3684c4725d4edc42a687debfd826655a1d9f297a2a69721a4"), looks := false }, kinds := [], alts := [], laidByText := true, laidKinds := [.data, .pinned], laidTests := true, laidLooks := .later }
def FnNamesCardSaid : Prop := Claim7.holds Tryd.pinned (.plain (OpenSpec.ofChange fnNamesSpec)) fnNamesCard

/-- THE TIED CARD OF 'laws.FnExactToAscii'. -/
def fnExactToAsciiCard : Claim7 := { stood := { row := fnExactToAsciiRow, standIns := [], harness := (true, "6dfad18276acceb3684c4725d4edc42a687debfd826655a1d9f297a2a69721a4"), looks := false }, kinds := [], alts := [], laidByText := true, laidKinds := [.data, .pinned], laidTests := true, laidLooks := .later }
def FnExactToAsciiCardSaid : Prop := Claim7.holds Tryd.pinned (.plain (OpenSpec.ofChange fnExactToAsciiSpec)) fnExactToAsciiCard

/-- THE TIED CARD OF 'laws.FnExactToUnicode'. -/
def fnExactToUnicodeCard : Claim7 := { stood := { row := fnExactToUnicodeRow, standIns := [], harness := (true, "6dfad18276acceb3684c4725d4edc42a687debfd826655a1d9f297a2a69721a4"), looks := false }, kinds := [], alts := [], laidByText := true, laidKinds := [.data, .pinned], laidTests := true, laidLooks := .later }
def FnExactToUnicodeCardSaid : Prop := Claim7.holds Tryd.pinned (.plain (OpenSpec.ofChange fnExactToUnicodeSpec)) fnExactToUnicodeCard

/-- THE TIED CARD OF 'laws.FnExactNameOf'. -/
def fnExactNameOfCard : Claim7 := { stood := { row := fnExactNameOfRow, standIns := [], harness := (true, "6dfad18276acceb3684c4725d4edc42a687debfd826655a1d9f297a2a69721a4"), looks := false }, kinds := [], alts := [], laidByText := true, laidKinds := [.data, .pinned], laidTests := true, laidLooks := .later }
def FnExactNameOfCardSaid : Prop := Claim7.holds Tryd.pinned (.plain (OpenSpec.ofChange fnExactNameOfSpec)) fnExactNameOfCard

/-- THE SECOND FORM's CARD OF 'laws.FnLabels'. -/
def fnLabelsUptoCard : Claim7 := { stood := { row := fnLabelsUptoRow, standIns := [], harness := (true, "6dfad18276acceb3684c4725d4edc42a687debfd826655a1d9f297a2a69721a4"), looks := false }, kinds := [], alts := [], laidByText := true, laidKinds := [.data, .pinned], laidTests := true, laidLooks := .later }
def FnLabelsUptoCardSaid : Prop := Claim7.holds Tryd.pinned (.plain (OpenSpec.upto fnLabelsSpec)) fnLabelsUptoCard

/-- THE SECOND FORM's CARD OF 'laws.FnNames'. -/
def fnNamesUptoCard : Claim7 := { stood := { row := fnNamesUptoRow, standIns := [], harness := (true, "6dfad18276acceb3684c4725d4edc42a687debfd826655a1d9f297a2a69721a4"), looks := false }, kinds := [], alts := [], laidByText := true, laidKinds := [.data, .pinned], laidTests := true, laidLooks := .later }
def FnNamesUptoCardSaid : Prop := Claim7.holds Tryd.pinned (.plain (OpenSpec.upto fnNamesSpec)) fnNamesUptoCard

/-- THE SECOND FORM's CARD OF 'laws.FnExactToAscii'. -/
def fnExactToAsciiUptoCard : Claim7 := { stood := { row := fnExactToAsciiUptoRow, standIns := [], harness := (true, "6dfad18276acceb3684c4725d4edc42a687debfd826655a1d9f297a2a69721a4"), looks := false }, kinds := [], alts := [], laidByText := true, laidKinds := [.data, .pinned], laidTests := true, laidLooks := .later }
def FnExactToAsciiUptoCardSaid : Prop := Claim7.holds Tryd.pinned (.plain (OpenSpec.upto fnExactToAsciiSpec)) fnExactToAsciiUptoCard

/-- THE SECOND FORM's CARD OF 'laws.FnExactToUnicode'. -/
def fnExactToUnicodeUptoCard : Claim7 := { stood := { row := fnExactToUnicodeUptoRow, standIns := [], harness := (true, "6dfad18276acceb3684c4725d4edc42a687debfd826655a1d9f297a2a69721a4"), looks := false }, kinds := [], alts := [], laidByText := true, laidKinds := [.data, .pinned], laidTests := true, laidLooks := .later }
def FnExactToUnicodeUptoCardSaid : Prop := Claim7.holds Tryd.pinned (.plain (OpenSpec.upto fnExactToUnicodeSpec)) fnExactToUnicodeUptoCard

/-- THE SECOND FORM's CARD OF 'laws.FnExactNameOf'. -/
def fnExactNameOfUptoCard : Claim7 := { stood := { row := fnExactNameOfUptoRow, standIns := [], harness := (true, "6dfad18276acceb3684c4725d4edc42a687debfd826655a1d9f297a2a69721a4"), looks := false }, kinds := [], alts := [], laidByText := true, laidKinds := [.data, .pinned], laidTests := true, laidLooks := .later }
def FnExactNameOfUptoCardSaid : Prop := Claim7.holds Tryd.pinned (.plain (OpenSpec.upto fnExactNameOfSpec)) fnExactNameOfUptoCard
end Rows
end Go.Proofs.YtcgjabbjpalmkaaDoor
