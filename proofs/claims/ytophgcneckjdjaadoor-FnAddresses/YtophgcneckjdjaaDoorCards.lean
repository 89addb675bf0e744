/-
  DERIVED. GIVEN WITH THE SEED: THE CARDS: each row of YtophgcneckjdjaaDoorRows.lean that lists a variable, with what it lists TIED to the program's text (the seventh form; the later family's looks); each row that meets fmt, with fmt's text TOLD by the authors' own Lean function (tested against real Go, not proved from fmt's source: count such statements apart). THE CARD IS WHAT COUNTS. Prove the row's statement (the work); the ties are given (YtophgcneckjdjaaDoorTie.lean); close each card by the builder's one call (the guide's Derived/Test/ToyasCard.lean, 'card_holds'). Laid BY PROGRAM, IN A SANDBOX (cutbox-door.mjs). By AI agents, Wed Nov 11 2026. No macro, syntax, notation, axiom, sorry.
-/
import Derived.Test.YtophgcneckjdjaaDoorRows
import GoSem.ClaimSeven
namespace Go.Proofs.YtophgcneckjdjaaDoor
namespace Rows

/-- THE TIED CARD OF 'laws.FnAddresses'. -/
def fnAddressesCard : Claim7 := { stood := { row := fnAddressesRow, standIns := [], harness := (true, "6a8143557b2cfa50da0ecde59d0369986093fb2909bfb50e03f0ad9961226a3a"), looks := false }, kinds := [], alts := [], laidByText := true, laidKinds := [.data, .data, .data], laidTests := true, laidLooks := .later }
def FnAddressesCardSaid : Prop := Claim7.holds Tryd.pinned (.plain (OpenSpec.ofChange fnAddressesSpec)) fnAddressesCard

/-- THE TIED CARD OF 'laws.FnLoose'. -/
def fnLooseCard : Claim7 := { stood := { row := fnLooseRow, standIns := [], harness := (true, "6a8143557b2cfa50da0ecde59d0369986093fb2909bfb50e03f0ad9961226a3a"), looks := false }, kinds := [], alts := [], laidByText := true, laidKinds := [.data, .data, .data], laidTests := true, laidLooks := .later }
def FnLooseCardSaid : Prop := Claim7.holds Tryd.pinned (.plain (OpenSpec.ofChange fnLooseSpec)) fnLooseCard

/-- THE TIED CARD OF 'laws.FnExactIp4Text'. -/
def fnExactIp4TextCard : Claim7 := { stood := { row := fnExactIp4TextRow, standIns := [], harness := (true, "6a8143557b2cfa50da0ecde59d0369986093fb2909bfb50e03f0ad9961226a3a"), looks := false }, kinds := [], alts := [], laidByText := true, laidKinds := [.data, .data, .data], laidTests := true, laidLooks := .later }
def FnExactIp4TextCardSaid : Prop := Claim7.holds Tryd.pinned (.plain (OpenSpec.ofChange fnExactIp4TextSpec)) fnExactIp4TextCard

/-- THE TIED CARD OF 'laws.FnExactParseIp4'. -/
def fnExactParseIp4Card : Claim7 := { stood := { row := fnExactParseIp4Row, standIns := [], harness := (true, "6a8143557b2cfa50da0ecde59d0369986093fb2909bfb50e03f0ad9961226a3a"), looks := false }, kinds := [], alts := [], laidByText := true, laidKinds := [.data, .data, .data], laidTests := true, laidLooks := .later }
def FnExactParseIp4CardSaid : Prop := Claim7.holds Tryd.pinned (.plain (OpenSpec.ofChange fnExactParseIp4Spec)) fnExactParseIp4Card

/-- THE TIED CARD OF 'laws.FnExactIp6Text'. -/
def fnExactIp6TextCard : Claim7 := { stood := { row := fnExactIp6TextRow, standIns := [], harness := (true, "6a8143557b2cfa50da0ecde59d0369986093fb2909bfb50e03f0ad9961226a3a"), looks := false }, kinds := [], alts := [], laidByText := true, laidKinds := [.data, .data, .data], laidTests := true, laidLooks := .later }
def FnExactIp6TextCardSaid : Prop := Claim7.holds Tryd.pinned (.plain (OpenSpec.ofChange fnExactIp6TextSpec)) fnExactIp6TextCard

/-- THE TIED CARD OF 'laws.FnExactParseIp6'. -/
def fnExactParseIp6Card : Claim7 := { stood := { row := fnExactParseIp6Row, standIns := [], harness := (true, "6a8143557b2cfa50da0ecde59d0369986093fb2909bfb50e03f0ad9961226a3a"), looks := false }, kinds := [], alts := [], laidByText := true, laidKinds := [.data, .data, .data], laidTests := true, laidLooks := .later }
def FnExactParseIp6CardSaid : Prop := Claim7.holds Tryd.pinned (.plain (OpenSpec.ofChange fnExactParseIp6Spec)) fnExactParseIp6Card

/-- THE SECOND FORM's CARD OF 'laws.FnAddresses'. -/
def fnAddressesUptoCard : Claim7 := { stood := { row := fnAddressesUptoRow, standIns := [], harness := (true, "6a8143557b2cfa50da0ecde59d0369986093fb2909bfb50e03f0ad9961226a3a"), looks := false }, kinds := [], alts := [], laidByText := true, laidKinds := [.data, .data, .data], laidTests := true, laidLooks := .later }
def FnAddressesUptoCardSaid : Prop := Claim7.holds Tryd.pinned (.plain (OpenSpec.upto fnAddressesSpec)) fnAddressesUptoCard

/-- THE SECOND FORM's CARD OF 'laws.FnLoose'. -/
def fnLooseUptoCard : Claim7 := { stood := { row := fnLooseUptoRow, standIns := [], harness := (true, "6a8143557b2cfa50da0ecde59d0369986093fb2909bfb50e03f0ad9961226a3a"), looks := false }, kinds := [], alts := [], laidByText := true, laidKinds := [.data, .data, .data], laidTests := true, laidLooks := .later }
def FnLooseUptoCardSaid : Prop := Claim7.holds Tryd.pinned (.plain (OpenSpec.upto fnLooseSpec)) fnLooseUptoCard

/-- THE SECOND FORM's CARD OF 'laws.FnExactIp4Text'. -/
def fnExactIp4TextUptoCard : Claim7 := { stood := { row := fnExactIp4TextUptoRow, standIns := [], harness := (true, "6a8143557b2cfa50da0ecde59d0369986093fb2909bfb50e03f0ad9961226a3a"), looks := false }, kinds := [], alts := [], laidByText := true, laidKinds := [.data, .data, .data], laidTests := true, laidLooks := .later }
def FnExactIp4TextUptoCardSaid : Prop := Claim7.holds Tryd.pinned (.plain (OpenSpec.upto fnExactIp4TextSpec)) fnExactIp4TextUptoCard

/-- THE SECOND FORM's CARD OF 'laws.FnExactParseIp4'. -/
def fnExactParseIp4UptoCard : Claim7 := { stood := { row := fnExactParseIp4UptoRow, standIns := [], harness := (true, "6a8143557b2cfa50da0ecde59d0369986093fb2909bfb50e03f0ad9961226a3a"), looks := false }, kinds := [], alts := [], laidByText := true, laidKinds := [.data, .data, .data], laidTests := true, laidLooks := .later }
def FnExactParseIp4UptoCardSaid : Prop := Claim7.holds Tryd.pinned (.plain (OpenSpec.upto fnExactParseIp4Spec)) fnExactParseIp4UptoCard

/-- THE SECOND FORM's CARD OF 'laws.FnExactIp6Text'. -/
def fnExactIp6TextUptoCard : Claim7 := { stood := { row := fnExactIp6TextUptoRow, standIns := [], harness := (true, "6a8143557b2cfa50da0ecde59d0369986093fb2909bfb50e03f0ad9961226a3a"), looks := false }, kinds := [], alts := [], laidByText := true, laidKinds := [.data, .data, .data], laidTests := true, laidLooks := .later }
def FnExactIp6TextUptoCardSaid : Prop := Claim7.holds Tryd.pinned (.plain (OpenSpec.upto fnExactIp6TextSpec)) fnExactIp6TextUptoCard

/-- THE SECOND FORM's CARD OF 'laws.FnExactParseIp6'. -/
def fnExactParseIp6UptoCard : Claim7 := { stood := { row := fnExactParseIp6UptoRow, standIns := [], harness := (true, "6a8143557b2cfa50da0ecde59d0369986093fb2909bfb50e03f0ad9961226a3a"), looks := false }, kinds := [], alts := [], laidByText := true, laidKinds := [.data, .data, .data], laidTests := true, laidLooks := .later }
def FnExactParseIp6UptoCardSaid : Prop := Claim7.holds Tryd.pinned (.plain (OpenSpec.upto fnExactParseIp6Spec)) fnExactParseIp6UptoCard
end Rows
end Go.Proofs.YtophgcneckjdjaaDoor
