/-
  DERIVED. GIVEN WITH THE SEED: THE CARDS: each row of YtdbdbaepmdmnfaaGreatDoorRows.lean that lists a variable, with what it lists TIED to the program's text (the seventh form; the later family's looks); each row that meets fmt, with fmt's text TOLD by the authors' own Lean function (tested against real Go, not proved from fmt's source: count such statements apart). THE CARD IS WHAT COUNTS. Prove the row's statement (the work); the ties are given (YtdbdbaepmdmnfaaGreatDoorTie.lean); close each card by the builder's one call (the guide's Derived/Test/ToyasCard.lean, 'card_holds'). Laid BY PROGRAM, IN A SANDBOX (cutbox-door.mjs). By AI agents, Wed Nov 11 2026. No macro, syntax, notation, axiom, sorry.
-/
import Derived.Test.YtdbdbaepmdmnfaaGreatDoorRows
import GoSem.ClaimSeven
namespace Go.Proofs.YtdbdbaepmdmnfaaGreatDoor
namespace Rows

/-- THE TIED CARD OF 'gleanlaw.New'. -/
def newCard : Claim7 := { stood := { row := newRow, standIns := [], harness := (true, "fcddc526e2fe4cfd6cff9ae96db1745ccdc7de8bb02f95da3199d1f47e52b263"), looks := true }, kinds := [], alts := [], laidByText := true, laidKinds := [.sentinel, .sentinel, .data, .data, .data, .sentinel, .sentinel, .sentinel, .sentinel, .sentinel, .sentinel, .sentinel, .sentinel], laidTests := true, laidLooks := .later }
def NewCardSaid : Prop := Claim7.holds Tryz.pinned (.plain (OpenSpec.ofChange newSpec)) newCard

/-- THE TIED CARD OF 'gleanlaw.Again'. -/
def againCard : Claim7 := { stood := { row := againRow, standIns := [], harness := (true, "fcddc526e2fe4cfd6cff9ae96db1745ccdc7de8bb02f95da3199d1f47e52b263"), looks := true }, kinds := [], alts := [], laidByText := true, laidKinds := [.sentinel, .sentinel, .data, .data, .data, .sentinel, .sentinel, .sentinel, .sentinel, .sentinel, .sentinel, .sentinel, .sentinel], laidTests := true, laidLooks := .later }
def AgainCardSaid : Prop := Claim7.holds Tryz.pinned (.plain (OpenSpec.ofChange againSpec)) againCard

/-- THE TIED CARD OF 'gleanlaw.Lines'. -/
def linesCard : Claim7 := { stood := { row := linesRow, standIns := [], harness := (true, "fcddc526e2fe4cfd6cff9ae96db1745ccdc7de8bb02f95da3199d1f47e52b263"), looks := true }, kinds := [], alts := [], laidByText := true, laidKinds := [.sentinel, .sentinel, .data, .data, .data, .sentinel, .sentinel, .sentinel, .sentinel, .sentinel, .sentinel, .sentinel, .sentinel], laidTests := true, laidLooks := .later }
def LinesCardSaid : Prop := Claim7.holds Tryz.pinned (.plain (OpenSpec.ofChange linesSpec)) linesCard

/-- THE TIED CARD OF 'gleanlaw.Fields'. -/
def fieldsCard : Claim7 := { stood := { row := fieldsRow, standIns := [], harness := (true, "fcddc526e2fe4cfd6cff9ae96db1745ccdc7de8bb02f95da3199d1f47e52b263"), looks := true }, kinds := [], alts := [], laidByText := true, laidKinds := [.sentinel, .sentinel, .data, .data, .data, .sentinel, .sentinel, .sentinel, .sentinel, .sentinel, .sentinel, .sentinel, .sentinel], laidTests := true, laidLooks := .later }
def FieldsCardSaid : Prop := Claim7.holds Tryz.pinned (.plain (OpenSpec.ofChange fieldsSpec)) fieldsCard

/-- THE TIED CARD OF 'gleanlaw.Each'. -/
def eachCard : Claim7 := { stood := { row := eachRow, standIns := [], harness := (true, "fcddc526e2fe4cfd6cff9ae96db1745ccdc7de8bb02f95da3199d1f47e52b263"), looks := true }, kinds := [], alts := [], laidByText := true, laidKinds := [.sentinel, .sentinel, .data, .data, .data, .sentinel, .sentinel, .sentinel, .sentinel, .sentinel, .sentinel, .sentinel, .sentinel], laidTests := true, laidLooks := .later }
def EachCardSaid : Prop := Claim7.holds Tryz.pinned (.plain (OpenSpec.ofChange eachSpec)) eachCard

/-- THE TIED CARD OF 'gleanlaw.Replaced'. -/
def replacedCard : Claim7 := { stood := { row := replacedRow, standIns := [], harness := (true, "fcddc526e2fe4cfd6cff9ae96db1745ccdc7de8bb02f95da3199d1f47e52b263"), looks := true }, kinds := [], alts := [], laidByText := true, laidKinds := [.sentinel, .sentinel, .data, .data, .data, .sentinel, .sentinel, .sentinel, .sentinel, .sentinel, .sentinel, .sentinel, .sentinel], laidTests := true, laidLooks := .later }
def ReplacedCardSaid : Prop := Claim7.holds Tryz.pinned (.plain (OpenSpec.ofChange replacedSpec)) replacedCard

/-- THE TIED CARD OF 'gleanlaw.Longer'. -/
def longerCard : Claim7 := { stood := { row := longerRow, standIns := [], harness := (true, "fcddc526e2fe4cfd6cff9ae96db1745ccdc7de8bb02f95da3199d1f47e52b263"), looks := true }, kinds := [], alts := [], laidByText := true, laidKinds := [.sentinel, .sentinel, .data, .data, .data, .sentinel, .sentinel, .sentinel, .sentinel, .sentinel, .sentinel, .sentinel, .sentinel], laidTests := true, laidLooks := .later }
def LongerCardSaid : Prop := Claim7.holds Tryz.pinned (.plain (OpenSpec.ofChange longerSpec)) longerCard

/-- THE SECOND FORM's CARD OF 'gleanlaw.New'. -/
def newUptoCard : Claim7 := { stood := { row := newUptoRow, standIns := [], harness := (true, "fcddc526e2fe4cfd6cff9ae96db1745ccdc7de8bb02f95da3199d1f47e52b263"), looks := true }, kinds := [], alts := [], laidByText := true, laidKinds := [.sentinel, .sentinel, .data, .data, .data, .sentinel, .sentinel, .sentinel, .sentinel, .sentinel, .sentinel, .sentinel, .sentinel], laidTests := true, laidLooks := .later }
def NewUptoCardSaid : Prop := Claim7.holds Tryz.pinned (.plain (OpenSpec.upto newSpec)) newUptoCard

/-- THE SECOND FORM's CARD OF 'gleanlaw.Again'. -/
def againUptoCard : Claim7 := { stood := { row := againUptoRow, standIns := [], harness := (true, "fcddc526e2fe4cfd6cff9ae96db1745ccdc7de8bb02f95da3199d1f47e52b263"), looks := true }, kinds := [], alts := [], laidByText := true, laidKinds := [.sentinel, .sentinel, .data, .data, .data, .sentinel, .sentinel, .sentinel, .sentinel, .sentinel, .sentinel, .sentinel, .sentinel], laidTests := true, laidLooks := .later }
def AgainUptoCardSaid : Prop := Claim7.holds Tryz.pinned (.plain (OpenSpec.upto againSpec)) againUptoCard

/-- THE SECOND FORM's CARD OF 'gleanlaw.Lines'. -/
def linesUptoCard : Claim7 := { stood := { row := linesUptoRow, standIns := [], harness := (true, "fcddc526e2fe4cfd6cff9ae96db1745ccdc7de8bb02f95da3199d1f47e52b263"), looks := true }, kinds := [], alts := [], laidByText := true, laidKinds := [.sentinel, .sentinel, .data, .data, .data, .sentinel, .sentinel, .sentinel, .sentinel, .sentinel, .sentinel, .sentinel, .sentinel], laidTests := true, laidLooks := .later }
def LinesUptoCardSaid : Prop := Claim7.holds Tryz.pinned (.plain (OpenSpec.upto linesSpec)) linesUptoCard

/-- THE SECOND FORM's CARD OF 'gleanlaw.Fields'. -/
def fieldsUptoCard : Claim7 := { stood := { row := fieldsUptoRow, standIns := [], harness := (true, "fcddc526e2fe4cfd6cff9ae96db1745ccdc7de8bb02f95da3199d1f47e52b263"), looks := true }, kinds := [], alts := [], laidByText := true, laidKinds := [.sentinel, .sentinel, .data, .data, .data, .sentinel, .sentinel, .sentinel, .sentinel, .sentinel, .sentinel, .sentinel, .sentinel], laidTests := true, laidLooks := .later }
def FieldsUptoCardSaid : Prop := Claim7.holds Tryz.pinned (.plain (OpenSpec.upto fieldsSpec)) fieldsUptoCard

/-- THE SECOND FORM's CARD OF 'gleanlaw.Each'. -/
def eachUptoCard : Claim7 := { stood := { row := eachUptoRow, standIns := [], harness := (true, "fcddc526e2fe4cfd6cff9ae96db1745ccdc7de8bb02f95da3199d1f47e52b263"), looks := true }, kinds := [], alts := [], laidByText := true, laidKinds := [.sentinel, .sentinel, .data, .data, .data, .sentinel, .sentinel, .sentinel, .sentinel, .sentinel, .sentinel, .sentinel, .sentinel], laidTests := true, laidLooks := .later }
def EachUptoCardSaid : Prop := Claim7.holds Tryz.pinned (.plain (OpenSpec.upto eachSpec)) eachUptoCard

/-- THE SECOND FORM's CARD OF 'gleanlaw.Replaced'. -/
def replacedUptoCard : Claim7 := { stood := { row := replacedUptoRow, standIns := [], harness := (true, "fcddc526e2fe4cfd6cff9ae96db1745ccdc7de8bb02f95da3199d1f47e52b263"), looks := true }, kinds := [], alts := [], laidByText := true, laidKinds := [.sentinel, .sentinel, .data, .data, .data, .sentinel, .sentinel, .sentinel, .sentinel, .sentinel, .sentinel, .sentinel, .sentinel], laidTests := true, laidLooks := .later }
def ReplacedUptoCardSaid : Prop := Claim7.holds Tryz.pinned (.plain (OpenSpec.upto replacedSpec)) replacedUptoCard

/-- THE SECOND FORM's CARD OF 'gleanlaw.Longer'. -/
def longerUptoCard : Claim7 := { stood := { row := longerUptoRow, standIns := [], harness := (true, "fcddc526e2fe4cfd6cff9ae96db1745ccdc7de8bb02f95da3199d1f47e52b263"), looks := true }, kinds := [], alts := [], laidByText := true, laidKinds := [.sentinel, .sentinel, .data, .data, .data, .sentinel, .sentinel, .sentinel, .sentinel, .sentinel, .sentinel, .sentinel, .sentinel], laidTests := true, laidLooks := .later }
def LongerUptoCardSaid : Prop := Claim7.holds Tryz.pinned (.plain (OpenSpec.upto longerSpec)) longerUptoCard
end Rows
end Go.Proofs.YtdbdbaepmdmnfaaGreatDoor
