/-
  DERIVED. GIVEN WITH THE SEED: THE CARDS: each row of YtgiemijhndanjaaDoorRows.lean that lists a variable, with what it lists TIED to the program's text (the seventh form; the later family's looks); each row that meets fmt, with fmt's text TOLD by the authors' own Lean function (tested against real Go, not proved from fmt's source: count such statements apart). THE CARD IS WHAT COUNTS. Prove the row's statement (the work); the ties are given (YtgiemijhndanjaaDoorTie.lean); close each card by the builder's one call (the guide's Derived/Test/ToyasCard.lean, 'card_holds'). Laid BY PROGRAM, IN A SANDBOX (cutbox-door.mjs). By AI agents, Wed Nov 11 2026. No macro, syntax, notation, axiom, sorry.
-/
import Derived.Test.YtgiemijhndanjaaDoorRows
import GoSem.ClaimSeven
namespace Go.Proofs.YtgiemijhndanjaaDoor
namespace Rows

/-- THE TIED CARD OF 'imagolaw16.ValsFits'. -/
def valsFitsCard : Claim7 := { stood := { row := valsFitsRow, standIns := [], harness := (true, "a0f2c535c156efa790edec68ba31658bc5a428d6bf88023023db142ade7cac07"), looks := false }, kinds := [], alts := [], laidByText := true, laidKinds := [.data, .data, .data], laidTests := true, laidLooks := .later }
def ValsFitsCardSaid : Prop := Claim7.holds Tryd.pinned (.plain (OpenSpec.ofChange valsFitsSpec)) valsFitsCard

/-- THE TIED CARD OF 'imagolaw16.ValsPlain'. -/
def valsPlainCard : Claim7 := { stood := { row := valsPlainRow, standIns := [], harness := (true, "a0f2c535c156efa790edec68ba31658bc5a428d6bf88023023db142ade7cac07"), looks := false }, kinds := [], alts := [], laidByText := true, laidKinds := [.data, .data, .data], laidTests := true, laidLooks := .later }
def ValsPlainCardSaid : Prop := Claim7.holds Tryd.pinned (.plain (OpenSpec.ofChange valsPlainSpec)) valsPlainCard

/-- THE TIED CARD OF 'imagolaw16.ValsAt'. -/
def valsAtCard : Claim7 := { stood := { row := valsAtRow, standIns := [], harness := (true, "a0f2c535c156efa790edec68ba31658bc5a428d6bf88023023db142ade7cac07"), looks := false }, kinds := [], alts := [], laidByText := true, laidKinds := [.data, .data, .data], laidTests := true, laidLooks := .later }
def ValsAtCardSaid : Prop := Claim7.holds Tryd.pinned (.plain (OpenSpec.ofChange valsAtSpec)) valsAtCard

/-- THE TIED CARD OF 'imagolaw16.ValsDefault'. -/
def valsDefaultCard : Claim7 := { stood := { row := valsDefaultRow, standIns := [], harness := (true, "a0f2c535c156efa790edec68ba31658bc5a428d6bf88023023db142ade7cac07"), looks := false }, kinds := [], alts := [], laidByText := true, laidKinds := [.data, .data, .data], laidTests := true, laidLooks := .later }
def ValsDefaultCardSaid : Prop := Claim7.holds Tryd.pinned (.plain (OpenSpec.ofChange valsDefaultSpec)) valsDefaultCard

/-- THE TIED CARD OF 'imagolaw16.ValsMisfit'. -/
def valsMisfitCard : Claim7 := { stood := { row := valsMisfitRow, standIns := [], harness := (true, "a0f2c535c156efa790edec68ba31658bc5a428d6bf88023023db142ade7cac07"), looks := false }, kinds := [], alts := [], laidByText := true, laidKinds := [.data, .data, .data], laidTests := true, laidLooks := .later }
def ValsMisfitCardSaid : Prop := Claim7.holds Tryd.pinned (.plain (OpenSpec.ofChange valsMisfitSpec)) valsMisfitCard

/-- THE TIED CARD OF 'imagolaw16.ValsOwn'. -/
def valsOwnCard : Claim7 := { stood := { row := valsOwnRow, standIns := [], harness := (true, "a0f2c535c156efa790edec68ba31658bc5a428d6bf88023023db142ade7cac07"), looks := false }, kinds := [], alts := [], laidByText := true, laidKinds := [.data, .data, .data], laidTests := true, laidLooks := .later }
def ValsOwnCardSaid : Prop := Claim7.holds Tryd.pinned (.plain (OpenSpec.ofChange valsOwnSpec)) valsOwnCard

/-- THE SECOND FORM's CARD OF 'imagolaw16.ValsFits'. -/
def valsFitsUptoCard : Claim7 := { stood := { row := valsFitsUptoRow, standIns := [], harness := (true, "a0f2c535c156efa790edec68ba31658bc5a428d6bf88023023db142ade7cac07"), looks := false }, kinds := [], alts := [], laidByText := true, laidKinds := [.data, .data, .data], laidTests := true, laidLooks := .later }
def ValsFitsUptoCardSaid : Prop := Claim7.holds Tryd.pinned (.plain (OpenSpec.upto valsFitsSpec)) valsFitsUptoCard

/-- THE SECOND FORM's CARD OF 'imagolaw16.ValsPlain'. -/
def valsPlainUptoCard : Claim7 := { stood := { row := valsPlainUptoRow, standIns := [], harness := (true, "a0f2c535c156efa790edec68ba31658bc5a428d6bf88023023db142ade7cac07"), looks := false }, kinds := [], alts := [], laidByText := true, laidKinds := [.data, .data, .data], laidTests := true, laidLooks := .later }
def ValsPlainUptoCardSaid : Prop := Claim7.holds Tryd.pinned (.plain (OpenSpec.upto valsPlainSpec)) valsPlainUptoCard

/-- THE SECOND FORM's CARD OF 'imagolaw16.ValsAt'. -/
def valsAtUptoCard : Claim7 := { stood := { row := valsAtUptoRow, standIns := [], harness := (true, "a0f2c535c156efa790edec68ba31658bc5a428d6bf88023023db142ade7cac07"), looks := false }, kinds := [], alts := [], laidByText := true, laidKinds := [.data, .data, .data], laidTests := true, laidLooks := .later }
def ValsAtUptoCardSaid : Prop := Claim7.holds Tryd.pinned (.plain (OpenSpec.upto valsAtSpec)) valsAtUptoCard

/-- THE SECOND FORM's CARD OF 'imagolaw16.ValsDefault'. -/
def valsDefaultUptoCard : Claim7 := { stood := { row := valsDefaultUptoRow, standIns := [], harness := (true, "a0f2c535c156efa790edec68ba31658bc5a428d6bf88023023db142ade7cac07"), looks := false }, kinds := [], alts := [], laidByText := true, laidKinds := [.data, .data, .data], laidTests := true, laidLooks := .later }
def ValsDefaultUptoCardSaid : Prop := Claim7.holds Tryd.pinned (.plain (OpenSpec.upto valsDefaultSpec)) valsDefaultUptoCard

/-- THE SECOND FORM's CARD OF 'imagolaw16.ValsMisfit'. -/
def valsMisfitUptoCard : Claim7 := { stood := { row := valsMisfitUptoRow, standIns := [], harness := (true, "a0f2c535c156efa790edec68ba31658bc5a428d6bf88023023db142ade7cac07"), looks := false }, kinds := [], alts := [], laidByText := true, laidKinds := [.data, .data, .data], laidTests := true, laidLooks := .later }
def ValsMisfitUptoCardSaid : Prop := Claim7.holds Tryd.pinned (.plain (OpenSpec.upto valsMisfitSpec)) valsMisfitUptoCard

/-- THE SECOND FORM's CARD OF 'imagolaw16.ValsOwn'. -/
def valsOwnUptoCard : Claim7 := { stood := { row := valsOwnUptoRow, standIns := [], harness := (true, "a0f2c535c156efa790edec68ba31658bc5a428d6bf88023023db142ade7cac07"), looks := false }, kinds := [], alts := [], laidByText := true, laidKinds := [.data, .data, .data], laidTests := true, laidLooks := .later }
def ValsOwnUptoCardSaid : Prop := Claim7.holds Tryd.pinned (.plain (OpenSpec.upto valsOwnSpec)) valsOwnUptoCard
end Rows
end Go.Proofs.YtgiemijhndanjaaDoor
