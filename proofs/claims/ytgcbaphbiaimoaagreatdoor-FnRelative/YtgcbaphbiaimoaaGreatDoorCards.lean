/-
  DERIVED. GIVEN WITH THE SEED: THE CARDS: each row of YtgcbaphbiaimoaaGreatDoorRows.lean that lists a variable, with what it lists TIED to the program's text (the seventh form; the later family's looks); each row that meets fmt, with fmt's text TOLD by the authors' own Lean function (tested against real Go, not proved from fmt's source: count such statements apart). THE CARD IS WHAT COUNTS. Prove the row's statement (the work); the ties are given (YtgcbaphbiaimoaaGreatDoorTie.lean); close each card by the builder's one call (the guide's Derived/Test/ToyasCard.lean, 'card_holds'). Laid BY PROGRAM, IN A SANDBOX (cutbox-door.mjs). By AI agents, Wed Nov 11 2026. No macro, syntax, notation, axiom, sorry.
-/
import Derived.Test.YtgcbaphbiaimoaaGreatDoorRows
import GoSem.ClaimSeven
namespace Go.Proofs.YtgcbaphbiaimoaaGreatDoor
namespace Rows

/-- THE TIED CARD OF 'laws.FnUrls'. -/
def fnUrlsCard : Claim7 := { stood := { row := fnUrlsRow, standIns := [], harness := (true, "9b861ee66cf4d87e1f6cd17504cb0a97d382436c35c270b17224752f0e61b6c9"), looks := true }, kinds := [], alts := [], laidByText := true, laidKinds := [.data, .data, .data, .data, .handle, .data, .data, .pinned], laidTests := true, laidLooks := .later }
def FnUrlsCardSaid : Prop := Claim7.holds Tryz.pinned (.plain (OpenSpec.ofChange fnUrlsSpec)) fnUrlsCard

/-- THE TIED CARD OF 'laws.FnParsed'. -/
def fnParsedCard : Claim7 := { stood := { row := fnParsedRow, standIns := [], harness := (true, "9b861ee66cf4d87e1f6cd17504cb0a97d382436c35c270b17224752f0e61b6c9"), looks := true }, kinds := [], alts := [], laidByText := true, laidKinds := [.data, .data, .data, .data, .handle, .data, .data, .pinned], laidTests := true, laidLooks := .later }
def FnParsedCardSaid : Prop := Claim7.holds Tryz.pinned (.plain (OpenSpec.ofChange fnParsedSpec)) fnParsedCard

/-- THE TIED CARD OF 'laws.FnResolved'. -/
def fnResolvedCard : Claim7 := { stood := { row := fnResolvedRow, standIns := [], harness := (true, "9b861ee66cf4d87e1f6cd17504cb0a97d382436c35c270b17224752f0e61b6c9"), looks := true }, kinds := [], alts := [], laidByText := true, laidKinds := [.data, .data, .data, .data, .handle, .data, .data, .sentinel, .sentinel, .sentinel, .sentinel, .sentinel, .pinned], laidTests := true, laidLooks := .later }
def FnResolvedCardSaid : Prop := Claim7.holds Tryz.pinned (.plain (OpenSpec.ofChange fnResolvedSpec)) fnResolvedCard

/-- THE TIED CARD OF 'laws.FnRelative'. -/
def fnRelativeCard : Claim7 := { stood := { row := fnRelativeRow, standIns := [], harness := (true, "9b861ee66cf4d87e1f6cd17504cb0a97d382436c35c270b17224752f0e61b6c9"), looks := true }, kinds := [], alts := [], laidByText := true, laidKinds := [.data, .data, .data, .data, .handle, .data, .data, .sentinel, .sentinel, .sentinel, .sentinel, .sentinel, .pinned], laidTests := true, laidLooks := .later }
def FnRelativeCardSaid : Prop := Claim7.holds Tryz.pinned (.plain (OpenSpec.ofChange fnRelativeSpec)) fnRelativeCard

/-- THE TIED CARD OF 'laws.FnExactParseUrl'. -/
def fnExactParseUrlCard : Claim7 := { stood := { row := fnExactParseUrlRow, standIns := [], harness := (true, "9b861ee66cf4d87e1f6cd17504cb0a97d382436c35c270b17224752f0e61b6c9"), looks := true }, kinds := [], alts := [], laidByText := true, laidKinds := [.data, .data, .data, .data, .handle, .data, .data, .pinned], laidTests := true, laidLooks := .later }
def FnExactParseUrlCardSaid : Prop := Claim7.holds Tryz.pinned (.plain (OpenSpec.ofChange fnExactParseUrlSpec)) fnExactParseUrlCard

/-- THE TIED CARD OF 'laws.FnExactResolve'. -/
def fnExactResolveCard : Claim7 := { stood := { row := fnExactResolveRow, standIns := [], harness := (true, "9b861ee66cf4d87e1f6cd17504cb0a97d382436c35c270b17224752f0e61b6c9"), looks := true }, kinds := [], alts := [], laidByText := true, laidKinds := [.data, .data, .data, .data, .handle, .data, .data, .sentinel, .sentinel, .sentinel, .sentinel, .sentinel, .pinned], laidTests := true, laidLooks := .later }
def FnExactResolveCardSaid : Prop := Claim7.holds Tryz.pinned (.plain (OpenSpec.ofChange fnExactResolveSpec)) fnExactResolveCard

/-- THE TIED CARD OF 'laws.FnExactRelative'. -/
def fnExactRelativeCard : Claim7 := { stood := { row := fnExactRelativeRow, standIns := [], harness := (true, "9b861ee66cf4d87e1f6cd17504cb0a97d382436c35c270b17224752f0e61b6c9"), looks := true }, kinds := [], alts := [], laidByText := true, laidKinds := [.data, .data, .data, .data, .handle, .data, .data, .sentinel, .sentinel, .sentinel, .sentinel, .sentinel, .pinned], laidTests := true, laidLooks := .later }
def FnExactRelativeCardSaid : Prop := Claim7.holds Tryz.pinned (.plain (OpenSpec.ofChange fnExactRelativeSpec)) fnExactRelativeCard

/-- THE SECOND FORM's CARD OF 'laws.FnUrls'. -/
def fnUrlsUptoCard : Claim7 := { stood := { row := fnUrlsUptoRow, standIns := [], harness := (true, "9b861ee66cf4d87e1f6cd17504cb0a97d382436c35c270b17224752f0e61b6c9"), looks := true }, kinds := [], alts := [], laidByText := true, laidKinds := [.data, .data, .data, .data, .handle, .data, .data, .pinned], laidTests := true, laidLooks := .later }
def FnUrlsUptoCardSaid : Prop := Claim7.holds Tryz.pinned (.plain (OpenSpec.upto fnUrlsSpec)) fnUrlsUptoCard

/-- THE SECOND FORM's CARD OF 'laws.FnParsed'. -/
def fnParsedUptoCard : Claim7 := { stood := { row := fnParsedUptoRow, standIns := [], harness := (true, "9b861ee66cf4d87e1f6cd17504cb0a97d382436c35c270b17224752f0e61b6c9"), looks := true }, kinds := [], alts := [], laidByText := true, laidKinds := [.data, .data, .data, .data, .handle, .data, .data, .pinned], laidTests := true, laidLooks := .later }
def FnParsedUptoCardSaid : Prop := Claim7.holds Tryz.pinned (.plain (OpenSpec.upto fnParsedSpec)) fnParsedUptoCard

/-- THE SECOND FORM's CARD OF 'laws.FnResolved'. -/
def fnResolvedUptoCard : Claim7 := { stood := { row := fnResolvedUptoRow, standIns := [], harness := (true, "9b861ee66cf4d87e1f6cd17504cb0a97d382436c35c270b17224752f0e61b6c9"), looks := true }, kinds := [], alts := [], laidByText := true, laidKinds := [.data, .data, .data, .data, .handle, .data, .data, .sentinel, .sentinel, .sentinel, .sentinel, .sentinel, .pinned], laidTests := true, laidLooks := .later }
def FnResolvedUptoCardSaid : Prop := Claim7.holds Tryz.pinned (.plain (OpenSpec.upto fnResolvedSpec)) fnResolvedUptoCard

/-- THE SECOND FORM's CARD OF 'laws.FnRelative'. -/
def fnRelativeUptoCard : Claim7 := { stood := { row := fnRelativeUptoRow, standIns := [], harness := (true, "9b861ee66cf4d87e1f6cd17504cb0a97d382436c35c270b17224752f0e61b6c9"), looks := true }, kinds := [], alts := [], laidByText := true, laidKinds := [.data, .data, .data, .data, .handle, .data, .data, .sentinel, .sentinel, .sentinel, .sentinel, .sentinel, .pinned], laidTests := true, laidLooks := .later }
def FnRelativeUptoCardSaid : Prop := Claim7.holds Tryz.pinned (.plain (OpenSpec.upto fnRelativeSpec)) fnRelativeUptoCard

/-- THE SECOND FORM's CARD OF 'laws.FnExactParseUrl'. -/
def fnExactParseUrlUptoCard : Claim7 := { stood := { row := fnExactParseUrlUptoRow, standIns := [], harness := (true, "9b861ee66cf4d87e1f6cd17504cb0a97d382436c35c270b17224752f0e61b6c9"), looks := true }, kinds := [], alts := [], laidByText := true, laidKinds := [.data, .data, .data, .data, .handle, .data, .data, .pinned], laidTests := true, laidLooks := .later }
def FnExactParseUrlUptoCardSaid : Prop := Claim7.holds Tryz.pinned (.plain (OpenSpec.upto fnExactParseUrlSpec)) fnExactParseUrlUptoCard

/-- THE SECOND FORM's CARD OF 'laws.FnExactResolve'. -/
def fnExactResolveUptoCard : Claim7 := { stood := { row := fnExactResolveUptoRow, standIns := [], harness := (true, "9b861ee66cf4d87e1f6cd17504cb0a97d382436c35c270b17224752f0e61b6c9"), looks := true }, kinds := [], alts := [], laidByText := true, laidKinds := [.data, .data, .data, .data, .handle, .data, .data, .sentinel, .sentinel, .sentinel, .sentinel, .sentinel, .pinned], laidTests := true, laidLooks := .later }
def FnExactResolveUptoCardSaid : Prop := Claim7.holds Tryz.pinned (.plain (OpenSpec.upto fnExactResolveSpec)) fnExactResolveUptoCard

/-- THE SECOND FORM's CARD OF 'laws.FnExactRelative'. -/
def fnExactRelativeUptoCard : Claim7 := { stood := { row := fnExactRelativeUptoRow, standIns := [], harness := (true, "9b861ee66cf4d87e1f6cd17504cb0a97d382436c35c270b17224752f0e61b6c9"), looks := true }, kinds := [], alts := [], laidByText := true, laidKinds := [.data, .data, .data, .data, .handle, .data, .data, .sentinel, .sentinel, .sentinel, .sentinel, .sentinel, .pinned], laidTests := true, laidLooks := .later }
def FnExactRelativeUptoCardSaid : Prop := Claim7.holds Tryz.pinned (.plain (OpenSpec.upto fnExactRelativeSpec)) fnExactRelativeUptoCard
end Rows
end Go.Proofs.YtgcbaphbiaimoaaGreatDoor
