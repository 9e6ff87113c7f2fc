/-
  DERIVED. GIVEN WITH THE SEED: THE CARDS: each row of YtigbfdloodfdgaaDoorRows.lean that lists a variable, with what it lists TIED to the program's text (the seventh form; the later family's looks); each row that meets fmt, with fmt's text TOLD by the authors' own Lean function (tested against real Go, not proved from fmt's source: count such statements apart). THE CARD IS WHAT COUNTS. Prove the row's statement (the work); the ties are given (YtigbfdloodfdgaaDoorTie.lean); close each card by the builder's one call (the guide's Derived/Test/ToyasCard.lean, 'card_holds'). Laid BY PROGRAM, IN A SANDBOX (cutbox-door.mjs). By AI agents, Wed Nov 11 2026. No macro, syntax, notation, axiom, sorry.
-/
import Derived.Test.YtigbfdloodfdgaaDoorRows
import GoSem.ClaimSeven
namespace Go.Proofs.YtigbfdloodfdgaaDoor
namespace Rows

/-- THE TIED CARD OF 'imagolaw08.PlayRuns'. -/
def playRunsCard : Claim7 := { stood := { row := playRunsRow, standIns := [], harness := (true, "fdf551b04b014a9acab71e68f748a65dcf4dbff27f33b6d66b4c41362f8a6fa7"), looks := false }, kinds := [], alts := [], laidByText := true, laidKinds := [.data], laidTests := true, laidLooks := .later }
def PlayRunsCardSaid : Prop := Claim7.holds Tryd.pinned (.plain (OpenSpec.ofChange playRunsSpec)) playRunsCard

/-- THE TIED CARD OF 'imagolaw08.PlayFuel'. -/
def playFuelCard : Claim7 := { stood := { row := playFuelRow, standIns := [], harness := (true, "fdf551b04b014a9acab71e68f748a65dcf4dbff27f33b6d66b4c41362f8a6fa7"), looks := false }, kinds := [], alts := [], laidByText := true, laidKinds := [.data], laidTests := true, laidLooks := .later }
def PlayFuelCardSaid : Prop := Claim7.holds Tryd.pinned (.plain (OpenSpec.ofChange playFuelSpec)) playFuelCard

/-- THE TIED CARD OF 'imagolaw08.PlayMore'. -/
def playMoreCard : Claim7 := { stood := { row := playMoreRow, standIns := [], harness := (true, "fdf551b04b014a9acab71e68f748a65dcf4dbff27f33b6d66b4c41362f8a6fa7"), looks := false }, kinds := [], alts := [], laidByText := true, laidKinds := [.data], laidTests := true, laidLooks := .later }
def PlayMoreCardSaid : Prop := Claim7.holds Tryd.pinned (.plain (OpenSpec.ofChange playMoreSpec)) playMoreCard

/-- THE TIED CARD OF 'imagolaw08.PlayAsked'. -/
def playAskedCard : Claim7 := { stood := { row := playAskedRow, standIns := [], harness := (true, "fdf551b04b014a9acab71e68f748a65dcf4dbff27f33b6d66b4c41362f8a6fa7"), looks := false }, kinds := [], alts := [], laidByText := true, laidKinds := [.data], laidTests := true, laidLooks := .later }
def PlayAskedCardSaid : Prop := Claim7.holds Tryd.pinned (.plain (OpenSpec.ofChange playAskedSpec)) playAskedCard

/-- THE SECOND FORM's CARD OF 'imagolaw08.PlayRuns'. -/
def playRunsUptoCard : Claim7 := { stood := { row := playRunsUptoRow, standIns := [], harness := (true, "fdf551b04b014a9acab71e68f748a65dcf4dbff27f33b6d66b4c41362f8a6fa7"), looks := false }, kinds := [], alts := [], laidByText := true, laidKinds := [.data], laidTests := true, laidLooks := .later }
def PlayRunsUptoCardSaid : Prop := Claim7.holds Tryd.pinned (.plain (OpenSpec.upto playRunsSpec)) playRunsUptoCard

/-- THE SECOND FORM's CARD OF 'imagolaw08.PlayFuel'. -/
def playFuelUptoCard : Claim7 := { stood := { row := playFuelUptoRow, standIns := [], harness := (true, "fdf551b04b014a9acab71e68f748a65dcf4dbff27f33b6d66b4c41362f8a6fa7"), looks := false }, kinds := [], alts := [], laidByText := true, laidKinds := [.data], laidTests := true, laidLooks := .later }
def PlayFuelUptoCardSaid : Prop := Claim7.holds Tryd.pinned (.plain (OpenSpec.upto playFuelSpec)) playFuelUptoCard

/-- THE SECOND FORM's CARD OF 'imagolaw08.PlayMore'. -/
def playMoreUptoCard : Claim7 := { stood := { row := playMoreUptoRow, standIns := [], harness := (true, "fdf551b04b014a9acab71e68f748a65dcf4dbff27f33b6d66b4c41362f8a6fa7"), looks := false }, kinds := [], alts := [], laidByText := true, laidKinds := [.data], laidTests := true, laidLooks := .later }
def PlayMoreUptoCardSaid : Prop := Claim7.holds Tryd.pinned (.plain (OpenSpec.upto playMoreSpec)) playMoreUptoCard

/-- THE SECOND FORM's CARD OF 'imagolaw08.PlayAsked'. -/
def playAskedUptoCard : Claim7 := { stood := { row := playAskedUptoRow, standIns := [], harness := (true, "fdf551b04b014a9acab71e68f748a65dcf4dbff27f33b6d66b4c41362f8a6fa7"), looks := false }, kinds := [], alts := [], laidByText := true, laidKinds := [.data], laidTests := true, laidLooks := .later }
def PlayAskedUptoCardSaid : Prop := Claim7.holds Tryd.pinned (.plain (OpenSpec.upto playAskedSpec)) playAskedUptoCard
end Rows
end Go.Proofs.YtigbfdloodfdgaaDoor
