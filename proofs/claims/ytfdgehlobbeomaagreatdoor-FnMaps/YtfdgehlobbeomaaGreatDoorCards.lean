/-
  DERIVED. GIVEN WITH THE SEED: THE CARDS: each row of YtfdgehlobbeomaaGreatDoorRows.lean that lists a variable, with what it lists TIED to the program's text (the seventh form; the later family's looks); each row that meets fmt, with fmt's text TOLD by the authors' own Lean function (tested against real Go, not proved from fmt's source: count such statements apart). THE CARD IS WHAT COUNTS. Prove the row's statement (the work); the ties are given (YtfdgehlobbeomaaGreatDoorTie.lean); close each card by the builder's one call (the guide's Derived/Test/ToyasCard.lean, 'card_holds'). Laid BY PROGRAM, IN A SANDBOX (cutbox-door.mjs). By AI agents, Wed Nov 11 2026. No macro, syntax, notation, axiom, sorry.
-/
import Derived.Test.YtfdgehlobbeomaaGreatDoorRows
import GoSem.ClaimSeven
namespace Go.Proofs.YtfdgehlobbeomaaGreatDoor
namespace Rows

/-- THE TIED CARD OF 'laws.FnMaps'. -/
def fnMapsCard : Claim7 := { stood := { row := fnMapsRow, standIns := [], harness := (true, "311b613c7c19ebe79956d406e61aabcf1cf79f162c0ac625b04a32ea238b2e57"), looks := true }, kinds := [], alts := [], laidByText := true, laidKinds := [.data, .data, .pinned], laidTests := true, laidLooks := .later }
def FnMapsCardSaid : Prop := Claim7.holds Tryz.pinned (.plain (OpenSpec.ofChange fnMapsSpec)) fnMapsCard

/-- THE TIED CARD OF 'laws.FnPriorities'. -/
def fnPrioritiesCard : Claim7 := { stood := { row := fnPrioritiesRow, standIns := [], harness := (true, "311b613c7c19ebe79956d406e61aabcf1cf79f162c0ac625b04a32ea238b2e57"), looks := true }, kinds := [], alts := [], laidByText := true, laidKinds := [.data, .data, .pinned], laidTests := true, laidLooks := .later }
def FnPrioritiesCardSaid : Prop := Claim7.holds Tryz.pinned (.plain (OpenSpec.ofChange fnPrioritiesSpec)) fnPrioritiesCard

/-- THE SECOND FORM's CARD OF 'laws.FnMaps'. -/
def fnMapsUptoCard : Claim7 := { stood := { row := fnMapsUptoRow, standIns := [], harness := (true, "311b613c7c19ebe79956d406e61aabcf1cf79f162c0ac625b04a32ea238b2e57"), looks := true }, kinds := [], alts := [], laidByText := true, laidKinds := [.data, .data, .pinned], laidTests := true, laidLooks := .later }
def FnMapsUptoCardSaid : Prop := Claim7.holds Tryz.pinned (.plain (OpenSpec.upto fnMapsSpec)) fnMapsUptoCard

/-- THE SECOND FORM's CARD OF 'laws.FnPriorities'. -/
def fnPrioritiesUptoCard : Claim7 := { stood := { row := fnPrioritiesUptoRow, standIns := [], harness := (true, "311b613c7c19ebe79956d406e61aabcf1cf79f162c0ac625b04a32ea238b2e57"), looks := true }, kinds := [], alts := [], laidByText := true, laidKinds := [.data, .data, .pinned], laidTests := true, laidLooks := .later }
def FnPrioritiesUptoCardSaid : Prop := Claim7.holds Tryz.pinned (.plain (OpenSpec.upto fnPrioritiesSpec)) fnPrioritiesUptoCard
end Rows
end Go.Proofs.YtfdgehlobbeomaaGreatDoor
