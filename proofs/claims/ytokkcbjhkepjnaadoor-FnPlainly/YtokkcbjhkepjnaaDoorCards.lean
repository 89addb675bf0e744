/-
  DERIVED. GIVEN WITH THE SEED: THE CARDS: each row of YtokkcbjhkepjnaaDoorRows.lean that lists a variable, with what it lists TIED to the program's text (the seventh form; the later family's looks); each row that meets fmt, with fmt's text TOLD by the authors' own Lean function (tested against real Go, not proved from fmt's source: count such statements apart). THE CARD IS WHAT COUNTS. Prove the row's statement (the work); the ties are given (YtokkcbjhkepjnaaDoorTie.lean); close each card by the builder's one call (the guide's Derived/Test/ToyasCard.lean, 'card_holds'). Laid BY PROGRAM, IN A SANDBOX (cutbox-door.mjs). By AI agents, Wed Nov 11 2026. No macro, syntax, notation, axiom, sorry.
-/
import Derived.Test.YtokkcbjhkepjnaaDoorRows
import GoSem.ClaimSeven
namespace Go.Proofs.YtokkcbjhkepjnaaDoor
namespace Rows

/-- THE TIED CARD OF 'laws.FnRunes'. -/
def fnRunesCard : Claim7 := { stood := { row := fnRunesRow, standIns := [], harness := (true, "617a9d2451a736e2b89121b4a526d5c884837974773161e564f0fc869bc85b92"), looks := false }, kinds := [], alts := [], laidByText := true, laidKinds := [.data, .pinned], laidTests := true, laidLooks := .later }
def FnRunesCardSaid : Prop := Claim7.holds Tryd.pinned (.plain (OpenSpec.ofChange fnRunesSpec)) fnRunesCard

/-- THE TIED CARD OF 'laws.FnTexts'. -/
def fnTextsCard : Claim7 := { stood := { row := fnTextsRow, standIns := [], harness := (true, "617a9d2451a736e2b89121b4a526d5c884837974773161e564f0fc869bc85b92"), looks := false }, kinds := [], alts := [], laidByText := true, laidKinds := [.data, .pinned], laidTests := true, laidLooks := .later }
def FnTextsCardSaid : Prop := Claim7.holds Tryd.pinned (.plain (OpenSpec.ofChange fnTextsSpec)) fnTextsCard

/-- THE TIED CARD OF 'laws.FnPercent'. -/
def fnPercentCard : Claim7 := { stood := { row := fnPercentRow, standIns := [], harness := (true, "617a9d2451a736e2b89121b4a526d5c884837974773161e564f0fc869bc85b92"), looks := false }, kinds := [], alts := [], laidByText := true, laidKinds := [.data, .data], laidTests := true, laidLooks := .later }
def FnPercentCardSaid : Prop := Claim7.holds Tryd.pinned (.plain (OpenSpec.ofChange fnPercentSpec)) fnPercentCard

/-- THE TIED CARD OF 'laws.FnPlainly'. -/
def fnPlainlyCard : Claim7 := { stood := { row := fnPlainlyRow, standIns := [], harness := (true, "617a9d2451a736e2b89121b4a526d5c884837974773161e564f0fc869bc85b92"), looks := false }, kinds := [], alts := [], laidByText := true, laidKinds := [.data, .data], laidTests := true, laidLooks := .later }
def FnPlainlyCardSaid : Prop := Claim7.holds Tryd.pinned (.plain (OpenSpec.ofChange fnPlainlySpec)) fnPlainlyCard

/-- THE TIED CARD OF 'laws.FnExactTrim'. -/
def fnExactTrimCard : Claim7 := { stood := { row := fnExactTrimRow, standIns := [], harness := (true, "617a9d2451a736e2b89121b4a526d5c884837974773161e564f0fc869bc85b92"), looks := false }, kinds := [], alts := [], laidByText := true, laidKinds := [.data, .pinned], laidTests := true, laidLooks := .later }
def FnExactTrimCardSaid : Prop := Claim7.holds Tryd.pinned (.plain (OpenSpec.ofChange fnExactTrimSpec)) fnExactTrimCard

/-- THE TIED CARD OF 'laws.FnExactRunes'. -/
def fnExactRunesCard : Claim7 := { stood := { row := fnExactRunesRow, standIns := [], harness := (true, "617a9d2451a736e2b89121b4a526d5c884837974773161e564f0fc869bc85b92"), looks := false }, kinds := [], alts := [], laidByText := true, laidKinds := [.data, .pinned], laidTests := true, laidLooks := .later }
def FnExactRunesCardSaid : Prop := Claim7.holds Tryd.pinned (.plain (OpenSpec.ofChange fnExactRunesSpec)) fnExactRunesCard

/-- THE TIED CARD OF 'laws.FnExactKeeps'. -/
def fnExactKeepsCard : Claim7 := { stood := { row := fnExactKeepsRow, standIns := [], harness := (true, "617a9d2451a736e2b89121b4a526d5c884837974773161e564f0fc869bc85b92"), looks := false }, kinds := [], alts := [], laidByText := true, laidKinds := [.data, .data], laidTests := true, laidLooks := .later }
def FnExactKeepsCardSaid : Prop := Claim7.holds Tryd.pinned (.plain (OpenSpec.ofChange fnExactKeepsSpec)) fnExactKeepsCard

/-- THE TIED CARD OF 'laws.FnExactPercent'. -/
def fnExactPercentCard : Claim7 := { stood := { row := fnExactPercentRow, standIns := [], harness := (true, "617a9d2451a736e2b89121b4a526d5c884837974773161e564f0fc869bc85b92"), looks := false }, kinds := [], alts := [], laidByText := true, laidKinds := [.data, .data], laidTests := true, laidLooks := .later }
def FnExactPercentCardSaid : Prop := Claim7.holds Tryd.pinned (.plain (OpenSpec.ofChange fnExactPercentSpec)) fnExactPercentCard

/-- THE TIED CARD OF 'laws.FnExactPercentOk'. -/
def fnExactPercentOkCard : Claim7 := { stood := { row := fnExactPercentOkRow, standIns := [], harness := (true, "617a9d2451a736e2b89121b4a526d5c884837974773161e564f0fc869bc85b92"), looks := false }, kinds := [], alts := [], laidByText := true, laidKinds := [.data, .data], laidTests := true, laidLooks := .later }
def FnExactPercentOkCardSaid : Prop := Claim7.holds Tryd.pinned (.plain (OpenSpec.ofChange fnExactPercentOkSpec)) fnExactPercentOkCard

/-- THE TIED CARD OF 'laws.FnExactPlainly'. -/
def fnExactPlainlyCard : Claim7 := { stood := { row := fnExactPlainlyRow, standIns := [], harness := (true, "617a9d2451a736e2b89121b4a526d5c884837974773161e564f0fc869bc85b92"), looks := false }, kinds := [], alts := [], laidByText := true, laidKinds := [.data, .data], laidTests := true, laidLooks := .later }
def FnExactPlainlyCardSaid : Prop := Claim7.holds Tryd.pinned (.plain (OpenSpec.ofChange fnExactPlainlySpec)) fnExactPlainlyCard

/-- THE SECOND FORM's CARD OF 'laws.FnRunes'. -/
def fnRunesUptoCard : Claim7 := { stood := { row := fnRunesUptoRow, standIns := [], harness := (true, "617a9d2451a736e2b89121b4a526d5c884837974773161e564f0fc869bc85b92"), looks := false }, kinds := [], alts := [], laidByText := true, laidKinds := [.data, .pinned], laidTests := true, laidLooks := .later }
def FnRunesUptoCardSaid : Prop := Claim7.holds Tryd.pinned (.plain (OpenSpec.upto fnRunesSpec)) fnRunesUptoCard

/-- THE SECOND FORM's CARD OF 'laws.FnTexts'. -/
def fnTextsUptoCard : Claim7 := { stood := { row := fnTextsUptoRow, standIns := [], harness := (true, "617a9d2451a736e2b89121b4a526d5c884837974773161e564f0fc869bc85b92"), looks := false }, kinds := [], alts := [], laidByText := true, laidKinds := [.data, .pinned], laidTests := true, laidLooks := .later }
def FnTextsUptoCardSaid : Prop := Claim7.holds Tryd.pinned (.plain (OpenSpec.upto fnTextsSpec)) fnTextsUptoCard

/-- THE SECOND FORM's CARD OF 'laws.FnPercent'. -/
def fnPercentUptoCard : Claim7 := { stood := { row := fnPercentUptoRow, standIns := [], harness := (true, "617a9d2451a736e2b89121b4a526d5c884837974773161e564f0fc869bc85b92"), looks := false }, kinds := [], alts := [], laidByText := true, laidKinds := [.data, .data], laidTests := true, laidLooks := .later }
def FnPercentUptoCardSaid : Prop := Claim7.holds Tryd.pinned (.plain (OpenSpec.upto fnPercentSpec)) fnPercentUptoCard

/-- THE SECOND FORM's CARD OF 'laws.FnPlainly'. -/
def fnPlainlyUptoCard : Claim7 := { stood := { row := fnPlainlyUptoRow, standIns := [], harness := (true, "617a9d2451a736e2b89121b4a526d5c884837974773161e564f0fc869bc85b92"), looks := false }, kinds := [], alts := [], laidByText := true, laidKinds := [.data, .data], laidTests := true, laidLooks := .later }
def FnPlainlyUptoCardSaid : Prop := Claim7.holds Tryd.pinned (.plain (OpenSpec.upto fnPlainlySpec)) fnPlainlyUptoCard

/-- THE SECOND FORM's CARD OF 'laws.FnExactTrim'. -/
def fnExactTrimUptoCard : Claim7 := { stood := { row := fnExactTrimUptoRow, standIns := [], harness := (true, "617a9d2451a736e2b89121b4a526d5c884837974773161e564f0fc869bc85b92"), looks := false }, kinds := [], alts := [], laidByText := true, laidKinds := [.data, .pinned], laidTests := true, laidLooks := .later }
def FnExactTrimUptoCardSaid : Prop := Claim7.holds Tryd.pinned (.plain (OpenSpec.upto fnExactTrimSpec)) fnExactTrimUptoCard

/-- THE SECOND FORM's CARD OF 'laws.FnExactRunes'. -/
def fnExactRunesUptoCard : Claim7 := { stood := { row := fnExactRunesUptoRow, standIns := [], harness := (true, "617a9d2451a736e2b89121b4a526d5c884837974773161e564f0fc869bc85b92"), looks := false }, kinds := [], alts := [], laidByText := true, laidKinds := [.data, .pinned], laidTests := true, laidLooks := .later }
def FnExactRunesUptoCardSaid : Prop := Claim7.holds Tryd.pinned (.plain (OpenSpec.upto fnExactRunesSpec)) fnExactRunesUptoCard

/-- THE SECOND FORM's CARD OF 'laws.FnExactKeeps'. -/
def fnExactKeepsUptoCard : Claim7 := { stood := { row := fnExactKeepsUptoRow, standIns := [], harness := (true, "617a9d2451a736e2b89121b4a526d5c884837974773161e564f0fc869bc85b92"), looks := false }, kinds := [], alts := [], laidByText := true, laidKinds := [.data, .data], laidTests := true, laidLooks := .later }
def FnExactKeepsUptoCardSaid : Prop := Claim7.holds Tryd.pinned (.plain (OpenSpec.upto fnExactKeepsSpec)) fnExactKeepsUptoCard

/-- THE SECOND FORM's CARD OF 'laws.FnExactPercent'. -/
def fnExactPercentUptoCard : Claim7 := { stood := { row := fnExactPercentUptoRow, standIns := [], harness := (true, "617a9d2451a736e2b89121b4a526d5c884837974773161e564f0fc869bc85b92"), looks := false }, kinds := [], alts := [], laidByText := true, laidKinds := [.data, .data], laidTests := true, laidLooks := .later }
def FnExactPercentUptoCardSaid : Prop := Claim7.holds Tryd.pinned (.plain (OpenSpec.upto fnExactPercentSpec)) fnExactPercentUptoCard

/-- THE SECOND FORM's CARD OF 'laws.FnExactPercentOk'. -/
def fnExactPercentOkUptoCard : Claim7 := { stood := { row := fnExactPercentOkUptoRow, standIns := [], harness := (true, "617a9d2451a736e2b89121b4a526d5c884837974773161e564f0fc869bc85b92"), looks := false }, kinds := [], alts := [], laidByText := true, laidKinds := [.data, .data], laidTests := true, laidLooks := .later }
def FnExactPercentOkUptoCardSaid : Prop := Claim7.holds Tryd.pinned (.plain (OpenSpec.upto fnExactPercentOkSpec)) fnExactPercentOkUptoCard

/-- THE SECOND FORM's CARD OF 'laws.FnExactPlainly'. -/
def fnExactPlainlyUptoCard : Claim7 := { stood := { row := fnExactPlainlyUptoRow, standIns := [], harness := (true, "617a9d2451a736e2b89121b4a526d5c884837974773161e564f0fc869bc85b92"), looks := false }, kinds := [], alts := [], laidByText := true, laidKinds := [.data, .data], laidTests := true, laidLooks := .later }
def FnExactPlainlyUptoCardSaid : Prop := Claim7.holds Tryd.pinned (.plain (OpenSpec.upto fnExactPlainlySpec)) fnExactPlainlyUptoCard
end Rows
end Go.Proofs.YtokkcbjhkepjnaaDoor
