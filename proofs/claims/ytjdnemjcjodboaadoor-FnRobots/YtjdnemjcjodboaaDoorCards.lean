/-
  DERIVED. GIVEN WITH THE SEED: THE CARDS: each row of YtjdnemjcjodboaaDoorRows.lean that lists a variable, with what it lists TIED to the program's text (the seventh form; the later family's looks); each row that meets fmt, with fmt's text TOLD by the authors' own Lean function (tested against real Go, not proved from fmt's source: count such statements apart). THE CARD IS WHAT COUNTS. Prove the row's statement (the work); the ties are given (YtjdnemjcjodboaaDoorTie.lean); close each card by the builder's one call (the guide's Derived/Test/ToyasCard.lean, 'card_holds'). Laid BY PROGRAM, IN A SANDBOX (cutbox-door.mjs). By AI agents, Wed Nov 11 2026. No macro, syntax, notation, axiom, sorry.
-/
import Derived.Test.YtjdnemjcjodboaaDoorRows
import GoSem.ClaimSeven
namespace Go.Proofs.YtjdnemjcjodboaaDoor
namespace Rows

/-- THE TIED CARD OF 'laws.FnRobots'. -/
def fnRobotsCard : Claim7 := { stood := { row := fnRobotsRow, standIns := [], harness := (true, "0f04eccbaf300c645da68bc1917968aedf2368f44047a867e9af2f475a63822b"), looks := false }, kinds := [], alts := [], laidByText := true, laidKinds := [.data, .data, .data, .pinned], laidTests := true, laidLooks := .later }
def FnRobotsCardSaid : Prop := Claim7.holds Tryd.pinned (.plain (OpenSpec.ofChange fnRobotsSpec)) fnRobotsCard

/-- THE TIED CARD OF 'laws.FnExactParseRobots'. -/
def fnExactParseRobotsCard : Claim7 := { stood := { row := fnExactParseRobotsRow, standIns := [], harness := (true, "0f04eccbaf300c645da68bc1917968aedf2368f44047a867e9af2f475a63822b"), looks := false }, kinds := [], alts := [], laidByText := true, laidKinds := [.data, .data, .data, .pinned], laidTests := true, laidLooks := .later }
def FnExactParseRobotsCardSaid : Prop := Claim7.holds Tryd.pinned (.plain (OpenSpec.ofChange fnExactParseRobotsSpec)) fnExactParseRobotsCard

/-- THE TIED CARD OF 'laws.FnExactPatternOf'. -/
def fnExactPatternOfCard : Claim7 := { stood := { row := fnExactPatternOfRow, standIns := [], harness := (true, "0f04eccbaf300c645da68bc1917968aedf2368f44047a867e9af2f475a63822b"), looks := false }, kinds := [], alts := [], laidByText := true, laidKinds := [.data, .data], laidTests := true, laidLooks := .later }
def FnExactPatternOfCardSaid : Prop := Claim7.holds Tryd.pinned (.plain (OpenSpec.ofChange fnExactPatternOfSpec)) fnExactPatternOfCard

/-- THE SECOND FORM's CARD OF 'laws.FnRobots'. -/
def fnRobotsUptoCard : Claim7 := { stood := { row := fnRobotsUptoRow, standIns := [], harness := (true, "0f04eccbaf300c645da68bc1917968aedf2368f44047a867e9af2f475a63822b"), looks := false }, kinds := [], alts := [], laidByText := true, laidKinds := [.data, .data, .data, .pinned], laidTests := true, laidLooks := .later }
def FnRobotsUptoCardSaid : Prop := Claim7.holds Tryd.pinned (.plain (OpenSpec.upto fnRobotsSpec)) fnRobotsUptoCard

/-- THE SECOND FORM's CARD OF 'laws.FnExactParseRobots'. -/
def fnExactParseRobotsUptoCard : Claim7 := { stood := { row := fnExactParseRobotsUptoRow, standIns := [], harness := (true, "0f04eccbaf300c645da68bc1917968aedf2368f44047a867e9af2f475a63822b"), looks := false }, kinds := [], alts := [], laidByText := true, laidKinds := [.data, .data, .data, .pinned], laidTests := true, laidLooks := .later }
def FnExactParseRobotsUptoCardSaid : Prop := Claim7.holds Tryd.pinned (.plain (OpenSpec.upto fnExactParseRobotsSpec)) fnExactParseRobotsUptoCard

/-- THE SECOND FORM's CARD OF 'laws.FnExactPatternOf'. -/
def fnExactPatternOfUptoCard : Claim7 := { stood := { row := fnExactPatternOfUptoRow, standIns := [], harness := (true, "0f04eccbaf300c645da68bc1917968aedf2368f44047a867e9af2f475a63822b"), looks := false }, kinds := [], alts := [], laidByText := true, laidKinds := [.data, .data], laidTests := true, laidLooks := .later }
def FnExactPatternOfUptoCardSaid : Prop := Claim7.holds Tryd.pinned (.plain (OpenSpec.upto fnExactPatternOfSpec)) fnExactPatternOfUptoCard
end Rows
end Go.Proofs.YtjdnemjcjodboaaDoor
