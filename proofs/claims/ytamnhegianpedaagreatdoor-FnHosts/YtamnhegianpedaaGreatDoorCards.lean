/-
  DERIVED. GIVEN WITH THE SEED: THE CARDS: each row of YtamnhegianpedaaGreatDoorRows.lean that lists a variable, with what it lists TIED to the program's text (the seventh form; the later family's looks); each row that meets fmt, with fmt's text TOLD by the authors' own Lean function (tested against real Go, not proved from fmt's source: count such statements apart). THE CARD IS WHAT COUNTS. Prove the row's statement (the work); the ties are given (YtamnhegianpedaaGreatDoorTie.lean); close each card by the builder's one call (the guide's Derived/Test/ToyasCard.lean, 'card_holds'). Laid BY PROGRAM, IN A SANDBOX (cutbox-door.mjs). By AI agents, Wed Nov 11 2026. No macro, syntax, notation, axiom, sorry.
-/
import Derived.Test.YtamnhegianpedaaGreatDoorRows
import GoSem.ClaimSeven
namespace Go.Proofs.YtamnhegianpedaaGreatDoor
namespace Rows

/-- THE TIED CARD OF 'laws.FnHosts'. -/
def fnHostsCard : Claim7 := { stood := { row := fnHostsRow, standIns := [], harness := (true, "cdec6918c2eb39b1a919d00b34618f5a2d97d9eedc2d52a9811ea788f5047e1c"), looks := true }, kinds := [], alts := [], laidByText := true, laidKinds := [.data, .data, .data, .data, .pinned], laidTests := true, laidLooks := .later }
def FnHostsCardSaid : Prop := Claim7.holds Tryz.pinned (.plain (OpenSpec.ofChange fnHostsSpec)) fnHostsCard

/-- THE TIED CARD OF 'laws.FnExactHostText'. -/
def fnExactHostTextCard : Claim7 := { stood := { row := fnExactHostTextRow, standIns := [], harness := (true, "cdec6918c2eb39b1a919d00b34618f5a2d97d9eedc2d52a9811ea788f5047e1c"), looks := true }, kinds := [], alts := [], laidByText := true, laidKinds := [.data, .data, .data], laidTests := true, laidLooks := .later }
def FnExactHostTextCardSaid : Prop := Claim7.holds Tryz.pinned (.plain (OpenSpec.ofChange fnExactHostTextSpec)) fnExactHostTextCard

/-- THE TIED CARD OF 'laws.FnExactParseHost'. -/
def fnExactParseHostCard : Claim7 := { stood := { row := fnExactParseHostRow, standIns := [], harness := (true, "cdec6918c2eb39b1a919d00b34618f5a2d97d9eedc2d52a9811ea788f5047e1c"), looks := true }, kinds := [], alts := [], laidByText := true, laidKinds := [.data, .data, .data, .data, .pinned], laidTests := true, laidLooks := .later }
def FnExactParseHostCardSaid : Prop := Claim7.holds Tryz.pinned (.plain (OpenSpec.ofChange fnExactParseHostSpec)) fnExactParseHostCard

/-- THE SECOND FORM's CARD OF 'laws.FnHosts'. -/
def fnHostsUptoCard : Claim7 := { stood := { row := fnHostsUptoRow, standIns := [], harness := (true, "cdec6918c2eb39b1a919d00b34618f5a2d97d9eedc2d52a9811ea788f5047e1c"), looks := true }, kinds := [], alts := [], laidByText := true, laidKinds := [.data, .data, .data, .data, .pinned], laidTests := true, laidLooks := .later }
def FnHostsUptoCardSaid : Prop := Claim7.holds Tryz.pinned (.plain (OpenSpec.upto fnHostsSpec)) fnHostsUptoCard

/-- THE SECOND FORM's CARD OF 'laws.FnExactHostText'. -/
def fnExactHostTextUptoCard : Claim7 := { stood := { row := fnExactHostTextUptoRow, standIns := [], harness := (true, "cdec6918c2eb39b1a919d00b34618f5a2d97d9eedc2d52a9811ea788f5047e1c"), looks := true }, kinds := [], alts := [], laidByText := true, laidKinds := [.data, .data, .data], laidTests := true, laidLooks := .later }
def FnExactHostTextUptoCardSaid : Prop := Claim7.holds Tryz.pinned (.plain (OpenSpec.upto fnExactHostTextSpec)) fnExactHostTextUptoCard

/-- THE SECOND FORM's CARD OF 'laws.FnExactParseHost'. -/
def fnExactParseHostUptoCard : Claim7 := { stood := { row := fnExactParseHostUptoRow, standIns := [], harness := (true, "cdec6918c2eb39b1a919d00b34618f5a2d97d9eedc2d52a9811ea788f5047e1c"), looks := true }, kinds := [], alts := [], laidByText := true, laidKinds := [.data, .data, .data, .data, .pinned], laidTests := true, laidLooks := .later }
def FnExactParseHostUptoCardSaid : Prop := Claim7.holds Tryz.pinned (.plain (OpenSpec.upto fnExactParseHostSpec)) fnExactParseHostUptoCard
end Rows
end Go.Proofs.YtamnhegianpedaaGreatDoor
