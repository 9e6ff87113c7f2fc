/-
  DERIVED. GIVEN WITH THE SEED: THE CARDS: each row of YteecjilknembdaaDoorRows.lean that lists a variable, with what it lists TIED to the program's text (the seventh form; the later family's looks); each row that meets fmt, with fmt's text TOLD by the authors' own Lean function (tested against real Go, not proved from fmt's source: count such statements apart). THE CARD IS WHAT COUNTS. Prove the row's statement (the work); the ties are given (YteecjilknembdaaDoorTie.lean); close each card by the builder's one call (the guide's Derived/Test/ToyasCard.lean, 'card_holds'). Laid BY PROGRAM, IN A SANDBOX (cutbox-door.mjs). By AI agents, Wed Nov 11 2026. No macro, syntax, notation, axiom, sorry.
-/
import Derived.Test.YteecjilknembdaaDoorRows
import GoSem.ClaimSeven
namespace Go.Proofs.YteecjilknembdaaDoor
namespace Rows

/-- THE TIED CARD OF 'imagolaw15.TypesPrints'. -/
def typesPrintsCard : Claim7 := { stood := { row := typesPrintsRow, standIns := [], harness := (true, "ee00753f4ae812496b2a75592a4f440b112a6dba95f0ec19c948b4dabe156e08"), looks := false }, kinds := [], alts := [], laidByText := true, laidKinds := [.data, .data, .data], laidTests := true, laidLooks := .later }
def TypesPrintsCardSaid : Prop := Claim7.holds Tryd.pinned (.plain (OpenSpec.ofChange typesPrintsSpec)) typesPrintsCard

/-- THE TIED CARD OF 'imagolaw15.TypesParses'. -/
def typesParsesCard : Claim7 := { stood := { row := typesParsesRow, standIns := [], harness := (true, "ee00753f4ae812496b2a75592a4f440b112a6dba95f0ec19c948b4dabe156e08"), looks := false }, kinds := [], alts := [], laidByText := true, laidKinds := [.data, .data, .data], laidTests := true, laidLooks := .later }
def TypesParsesCardSaid : Prop := Claim7.holds Tryd.pinned (.plain (OpenSpec.ofChange typesParsesSpec)) typesParsesCard

/-- THE TIED CARD OF 'imagolaw15.TypesFields'. -/
def typesFieldsCard : Claim7 := { stood := { row := typesFieldsRow, standIns := [], harness := (true, "ee00753f4ae812496b2a75592a4f440b112a6dba95f0ec19c948b4dabe156e08"), looks := false }, kinds := [], alts := [], laidByText := true, laidKinds := [.data, .data, .data], laidTests := true, laidLooks := .later }
def TypesFieldsCardSaid : Prop := Claim7.holds Tryd.pinned (.plain (OpenSpec.ofChange typesFieldsSpec)) typesFieldsCard

/-- THE TIED CARD OF 'imagolaw15.TypesBack'. -/
def typesBackCard : Claim7 := { stood := { row := typesBackRow, standIns := [], harness := (true, "ee00753f4ae812496b2a75592a4f440b112a6dba95f0ec19c948b4dabe156e08"), looks := false }, kinds := [], alts := [], laidByText := true, laidKinds := [.data, .data, .data], laidTests := true, laidLooks := .later }
def TypesBackCardSaid : Prop := Claim7.holds Tryd.pinned (.plain (OpenSpec.ofChange typesBackSpec)) typesBackCard

/-- THE TIED CARD OF 'imagolaw15.TypesCut'. -/
def typesCutCard : Claim7 := { stood := { row := typesCutRow, standIns := [], harness := (true, "ee00753f4ae812496b2a75592a4f440b112a6dba95f0ec19c948b4dabe156e08"), looks := false }, kinds := [], alts := [], laidByText := true, laidKinds := [.data, .data, .data], laidTests := true, laidLooks := .later }
def TypesCutCardSaid : Prop := Claim7.holds Tryd.pinned (.plain (OpenSpec.ofChange typesCutSpec)) typesCutCard

/-- THE SECOND FORM's CARD OF 'imagolaw15.TypesPrints'. -/
def typesPrintsUptoCard : Claim7 := { stood := { row := typesPrintsUptoRow, standIns := [], harness := (true, "ee00753f4ae812496b2a75592a4f440b112a6dba95f0ec19c948b4dabe156e08"), looks := false }, kinds := [], alts := [], laidByText := true, laidKinds := [.data, .data, .data], laidTests := true, laidLooks := .later }
def TypesPrintsUptoCardSaid : Prop := Claim7.holds Tryd.pinned (.plain (OpenSpec.upto typesPrintsSpec)) typesPrintsUptoCard

/-- THE SECOND FORM's CARD OF 'imagolaw15.TypesParses'. -/
def typesParsesUptoCard : Claim7 := { stood := { row := typesParsesUptoRow, standIns := [], harness := (true, "ee00753f4ae812496b2a75592a4f440b112a6dba95f0ec19c948b4dabe156e08"), looks := false }, kinds := [], alts := [], laidByText := true, laidKinds := [.data, .data, .data], laidTests := true, laidLooks := .later }
def TypesParsesUptoCardSaid : Prop := Claim7.holds Tryd.pinned (.plain (OpenSpec.upto typesParsesSpec)) typesParsesUptoCard

/-- THE SECOND FORM's CARD OF 'imagolaw15.TypesFields'. -/
def typesFieldsUptoCard : Claim7 := { stood := { row := typesFieldsUptoRow, standIns := [], harness := (true, "ee00753f4ae812496b2a75592a4f440b112a6dba95f0ec19c948b4dabe156e08"), looks := false }, kinds := [], alts := [], laidByText := true, laidKinds := [.data, .data, .data], laidTests := true, laidLooks := .later }
def TypesFieldsUptoCardSaid : Prop := Claim7.holds Tryd.pinned (.plain (OpenSpec.upto typesFieldsSpec)) typesFieldsUptoCard

/-- THE SECOND FORM's CARD OF 'imagolaw15.TypesBack'. -/
def typesBackUptoCard : Claim7 := { stood := { row := typesBackUptoRow, standIns := [], harness := (true, "ee00753f4ae812496b2a75592a4f440b112a6dba95f0ec19c948b4dabe156e08"), looks := false }, kinds := [], alts := [], laidByText := true, laidKinds := [.data, .data, .data], laidTests := true, laidLooks := .later }
def TypesBackUptoCardSaid : Prop := Claim7.holds Tryd.pinned (.plain (OpenSpec.upto typesBackSpec)) typesBackUptoCard

/-- THE SECOND FORM's CARD OF 'imagolaw15.TypesCut'. -/
def typesCutUptoCard : Claim7 := { stood := { row := typesCutUptoRow, standIns := [], harness := (true, "ee00753f4ae812496b2a75592a4f440b112a6dba95f0ec19c948b4dabe156e08"), looks := false }, kinds := [], alts := [], laidByText := true, laidKinds := [.data, .data, .data], laidTests := true, laidLooks := .later }
def TypesCutUptoCardSaid : Prop := Claim7.holds Tryd.pinned (.plain (OpenSpec.upto typesCutSpec)) typesCutUptoCard
end Rows
end Go.Proofs.YteecjilknembdaaDoor
