/-
  DERIVED. GIVEN WITH THE SEED: THE CARDS: each row of YtijliddchoehhaaGreatDoorRows.lean that lists a variable, with what it lists TIED to the program's text (the seventh form; the later family's looks); each row that meets fmt, with fmt's text TOLD by the authors' own Lean function (tested against real Go, not proved from fmt's source: count such statements apart). THE CARD IS WHAT COUNTS. Prove the row's statement (the work); the ties are given (YtijliddchoehhaaGreatDoorTie.lean); close each card by the builder's one call (the guide's Derived/Test/ToyasCard.lean, 'card_holds'). Laid BY PROGRAM, IN A SANDBOX (cutbox-door.mjs). By AI agents, Wed Nov 11 2026. No macro, syntax, notation, axiom, sorry.
-/
import Derived.Test.YtijliddchoehhaaGreatDoorRows
import GoSem.ClaimSeven
namespace Go.Proofs.YtijliddchoehhaaGreatDoor
namespace Rows

/-- THE TIED CARD OF 'laws.FnSites'. -/
def fnSitesCard : Claim7 := { stood := { row := fnSitesRow, standIns := [], harness := (true, "1c5294f7f75de7f0bc64fdc8a682ffc88bd45efb74994d6a4b355d9824cf89a2"), looks := true }, kinds := [], alts := [], laidByText := true, laidKinds := [.data, .data, .data, .data, .pinned], laidTests := true, laidLooks := .later }
def FnSitesCardSaid : Prop := Claim7.holds Tryz.pinned (.plain (OpenSpec.ofChange fnSitesSpec)) fnSitesCard

/-- THE TIED CARD OF 'laws.FnExactSiteOf'. -/
def fnExactSiteOfCard : Claim7 := { stood := { row := fnExactSiteOfRow, standIns := [], harness := (true, "1c5294f7f75de7f0bc64fdc8a682ffc88bd45efb74994d6a4b355d9824cf89a2"), looks := true }, kinds := [], alts := [], laidByText := true, laidKinds := [.data, .data, .data, .data, .pinned], laidTests := true, laidLooks := .later }
def FnExactSiteOfCardSaid : Prop := Claim7.holds Tryz.pinned (.plain (OpenSpec.ofChange fnExactSiteOfSpec)) fnExactSiteOfCard

/-- THE SECOND FORM's CARD OF 'laws.FnSites'. -/
def fnSitesUptoCard : Claim7 := { stood := { row := fnSitesUptoRow, standIns := [], harness := (true, "1c5294f7f75de7f0bc64fdc8a682ffc88bd45efb74994d6a4b355d9824cf89a2"), looks := true }, kinds := [], alts := [], laidByText := true, laidKinds := [.data, .data, .data, .data, .pinned], laidTests := true, laidLooks := .later }
def FnSitesUptoCardSaid : Prop := Claim7.holds Tryz.pinned (.plain (OpenSpec.upto fnSitesSpec)) fnSitesUptoCard

/-- THE SECOND FORM's CARD OF 'laws.FnExactSiteOf'. -/
def fnExactSiteOfUptoCard : Claim7 := { stood := { row := fnExactSiteOfUptoRow, standIns := [], harness := (true, "1c5294f7f75de7f0bc64fdc8a682ffc88bd45efb74994d6a4b355d9824cf89a2"), looks := true }, kinds := [], alts := [], laidByText := true, laidKinds := [.data, .data, .data, .data, .pinned], laidTests := true, laidLooks := .later }
def FnExactSiteOfUptoCardSaid : Prop := Claim7.holds Tryz.pinned (.plain (OpenSpec.upto fnExactSiteOfSpec)) fnExactSiteOfUptoCard
end Rows
end Go.Proofs.YtijliddchoehhaaGreatDoor
