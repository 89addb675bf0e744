/-
  DERIVED. GIVEN WITH THE SEED: THE CARDS: each row of YtfdgehlobbeomaaDoorRows.lean that lists a variable, with what it lists TIED to the program's text (the seventh form; the later family's looks); each row that meets fmt, with fmt's text TOLD by the authors' own Lean function (tested against real Go, not proved from fmt's source: count such statements apart). THE CARD IS WHAT COUNTS. Prove the row's statement (the work); the ties are given (YtfdgehlobbeomaaDoorTie.lean); close each card by the builder's one call (the guide's Derived/Test/ToyasCard.lean, 'card_holds'). Laid BY PROGRAM, IN A SANDBOX (cutbox-door.mjs). By AI agents, Wed Nov 11 2026. No macro, syntax, notation, axiom, sorry.
-/
import Derived.Test.YtfdgehlobbeomaaDoorRows
import GoSem.ClaimSeven
namespace Go.Proofs.YtfdgehlobbeomaaDoor
namespace Rows

/-- THE TIED CARD OF 'laws.FnExactSitemapText'. -/
def fnExactSitemapTextCard : Claim7 := { stood := { row := fnExactSitemapTextRow, standIns := [], harness := (true, "70fc5a7fa108f7f6758325085c0a98064f39fb2e9753b0e8cd88288088c37ebb"), looks := false }, kinds := [], alts := [], laidByText := true, laidKinds := [.data], laidTests := true, laidLooks := .later }
def FnExactSitemapTextCardSaid : Prop := Claim7.holds Tryd.pinned (.plain (OpenSpec.ofChange fnExactSitemapTextSpec)) fnExactSitemapTextCard

/-- THE SECOND FORM's CARD OF 'laws.FnExactSitemapText'. -/
def fnExactSitemapTextUptoCard : Claim7 := { stood := { row := fnExactSitemapTextUptoRow, standIns := [], harness := (true, "70fc5a7fa108f7f6758325085c0a98064f39fb2e9753b0e8cd88288088c37ebb"), looks := false }, kinds := [], alts := [], laidByText := true, laidKinds := [.data], laidTests := true, laidLooks := .later }
def FnExactSitemapTextUptoCardSaid : Prop := Claim7.holds Tryd.pinned (.plain (OpenSpec.upto fnExactSitemapTextSpec)) fnExactSitemapTextUptoCard
end Rows
end Go.Proofs.YtfdgehlobbeomaaDoor
