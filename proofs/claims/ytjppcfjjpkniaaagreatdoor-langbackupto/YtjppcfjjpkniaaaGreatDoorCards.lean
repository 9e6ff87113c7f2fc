/-
  DERIVED. GIVEN WITH THE SEED: THE CARDS: each row of YtjppcfjjpkniaaaGreatDoorRows.lean that lists a variable, with what it lists TIED to the program's text (the seventh form; the later family's looks); each row that meets fmt, with fmt's text TOLD by the authors' own Lean function (tested against real Go, not proved from fmt's source: count such statements apart). THE CARD IS WHAT COUNTS. Prove the row's statement (the work); the ties are given (YtjppcfjjpkniaaaGreatDoorTie.lean); close each card by the builder's one call (the guide's Derived/Test/ToyasCard.lean, 'card_holds'). Laid BY PROGRAM, IN A SANDBOX (cutbox-door.mjs). By AI agents, Wed Nov 11 2026. No macro, syntax, notation, axiom, sorry.
-/
import Derived.Test.YtjppcfjjpkniaaaGreatDoorRows
import GoSem.ClaimSeven
namespace Go.Proofs.YtjppcfjjpkniaaaGreatDoor
namespace Rows

/-- THE TIED CARD OF 'imagolaw18.LangParses'. -/
def langParsesCard : Claim7 := { stood := { row := langParsesRow, standIns := [], harness := (true, "4ee973f330c97a85ddbc7ed9470e1b131c2ebb30522abf82be69e9fbe469ba54"), looks := true }, kinds := [], alts := [], laidByText := true, laidKinds := [.data, .data, .data, .data, .sentinel, .sentinel, .data, .pinned], laidTests := true, laidLooks := .later }
def LangParsesCardSaid : Prop := Claim7.holds Tryz.pinned (.plain (OpenSpec.ofChange langParsesSpec)) langParsesCard

/-- THE TIED CARD OF 'imagolaw18.LangPrints'. -/
def langPrintsCard : Claim7 := { stood := { row := langPrintsRow, standIns := [], harness := (true, "4ee973f330c97a85ddbc7ed9470e1b131c2ebb30522abf82be69e9fbe469ba54"), looks := true }, kinds := [], alts := [], laidByText := true, laidKinds := [.data, .data, .data, .data, .sentinel, .sentinel, .data, .pinned], laidTests := true, laidLooks := .later }
def LangPrintsCardSaid : Prop := Claim7.holds Tryz.pinned (.plain (OpenSpec.ofChange langPrintsSpec)) langPrintsCard

/-- THE TIED CARD OF 'imagolaw18.LangBack'. -/
def langBackCard : Claim7 := { stood := { row := langBackRow, standIns := [], harness := (true, "4ee973f330c97a85ddbc7ed9470e1b131c2ebb30522abf82be69e9fbe469ba54"), looks := true }, kinds := [], alts := [], laidByText := true, laidKinds := [.data, .data, .data, .data, .sentinel, .sentinel, .data, .pinned], laidTests := true, laidLooks := .later }
def LangBackCardSaid : Prop := Claim7.holds Tryz.pinned (.plain (OpenSpec.ofChange langBackSpec)) langBackCard

/-- THE TIED CARD OF 'imagolaw18.LangJoins'. -/
def langJoinsCard : Claim7 := { stood := { row := langJoinsRow, standIns := [], harness := (true, "4ee973f330c97a85ddbc7ed9470e1b131c2ebb30522abf82be69e9fbe469ba54"), looks := true }, kinds := [], alts := [], laidByText := true, laidKinds := [.data, .data, .data, .data, .sentinel, .sentinel, .data, .pinned], laidTests := true, laidLooks := .later }
def LangJoinsCardSaid : Prop := Claim7.holds Tryz.pinned (.plain (OpenSpec.ofChange langJoinsSpec)) langJoinsCard

/-- THE TIED CARD OF 'imagolaw18.LangNotes'. -/
def langNotesCard : Claim7 := { stood := { row := langNotesRow, standIns := [], harness := (true, "4ee973f330c97a85ddbc7ed9470e1b131c2ebb30522abf82be69e9fbe469ba54"), looks := true }, kinds := [], alts := [], laidByText := true, laidKinds := [.data, .data, .data, .data, .sentinel, .sentinel, .data, .pinned], laidTests := true, laidLooks := .later }
def LangNotesCardSaid : Prop := Claim7.holds Tryz.pinned (.plain (OpenSpec.ofChange langNotesSpec)) langNotesCard

/-- THE SECOND FORM's CARD OF 'imagolaw18.LangParses'. -/
def langParsesUptoCard : Claim7 := { stood := { row := langParsesUptoRow, standIns := [], harness := (true, "4ee973f330c97a85ddbc7ed9470e1b131c2ebb30522abf82be69e9fbe469ba54"), looks := true }, kinds := [], alts := [], laidByText := true, laidKinds := [.data, .data, .data, .data, .sentinel, .sentinel, .data, .pinned], laidTests := true, laidLooks := .later }
def LangParsesUptoCardSaid : Prop := Claim7.holds Tryz.pinned (.plain (OpenSpec.upto langParsesSpec)) langParsesUptoCard

/-- THE SECOND FORM's CARD OF 'imagolaw18.LangPrints'. -/
def langPrintsUptoCard : Claim7 := { stood := { row := langPrintsUptoRow, standIns := [], harness := (true, "4ee973f330c97a85ddbc7ed9470e1b131c2ebb30522abf82be69e9fbe469ba54"), looks := true }, kinds := [], alts := [], laidByText := true, laidKinds := [.data, .data, .data, .data, .sentinel, .sentinel, .data, .pinned], laidTests := true, laidLooks := .later }
def LangPrintsUptoCardSaid : Prop := Claim7.holds Tryz.pinned (.plain (OpenSpec.upto langPrintsSpec)) langPrintsUptoCard

/-- THE SECOND FORM's CARD OF 'imagolaw18.LangBack'. -/
def langBackUptoCard : Claim7 := { stood := { row := langBackUptoRow, standIns := [], harness := (true, "4ee973f330c97a85ddbc7ed9470e1b131c2ebb30522abf82be69e9fbe469ba54"), looks := true }, kinds := [], alts := [], laidByText := true, laidKinds := [.data, .data, .data, .data, .sentinel, .sentinel, .data, .pinned], laidTests := true, laidLooks := .later }
def LangBackUptoCardSaid : Prop := Claim7.holds Tryz.pinned (.plain (OpenSpec.upto langBackSpec)) langBackUptoCard

/-- THE SECOND FORM's CARD OF 'imagolaw18.LangJoins'. -/
def langJoinsUptoCard : Claim7 := { stood := { row := langJoinsUptoRow, standIns := [], harness := (true, "4ee973f330c97a85ddbc7ed9470e1b131c2ebb30522abf82be69e9fbe469ba54"), looks := true }, kinds := [], alts := [], laidByText := true, laidKinds := [.data, .data, .data, .data, .sentinel, .sentinel, .data, .pinned], laidTests := true, laidLooks := .later }
def LangJoinsUptoCardSaid : Prop := Claim7.holds Tryz.pinned (.plain (OpenSpec.upto langJoinsSpec)) langJoinsUptoCard

/-- THE SECOND FORM's CARD OF 'imagolaw18.LangNotes'. -/
def langNotesUptoCard : Claim7 := { stood := { row := langNotesUptoRow, standIns := [], harness := (true, "4ee973f330c97a85ddbc7ed9470e1b131c2ebb30522abf82be69e9fbe469ba54"), looks := true }, kinds := [], alts := [], laidByText := true, laidKinds := [.data, .data, .data, .data, .sentinel, .sentinel, .data, .pinned], laidTests := true, laidLooks := .later }
def LangNotesUptoCardSaid : Prop := Claim7.holds Tryz.pinned (.plain (OpenSpec.upto langNotesSpec)) langNotesUptoCard
end Rows
end Go.Proofs.YtjppcfjjpkniaaaGreatDoor
