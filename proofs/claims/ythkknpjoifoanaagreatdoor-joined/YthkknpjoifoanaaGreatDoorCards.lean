/-
  DERIVED. GIVEN WITH THE SEED: THE CARDS: each row of YthkknpjoifoanaaGreatDoorRows.lean that lists a variable, with what it lists TIED to the program's text (the seventh form; the later family's looks); each row that meets fmt, with fmt's text TOLD by the authors' own Lean function (tested against real Go, not proved from fmt's source: count such statements apart). THE CARD IS WHAT COUNTS. Prove the row's statement (the work); the ties are given (YthkknpjoifoanaaGreatDoorTie.lean); close each card by the builder's one call (the guide's Derived/Test/ToyasCard.lean, 'card_holds'). Laid BY PROGRAM, IN A SANDBOX (cutbox-door.mjs). By AI agents, Wed Nov 11 2026. No macro, syntax, notation, axiom, sorry.
-/
import Derived.Test.YthkknpjoifoanaaGreatDoorRows
import GoSem.ClaimSeven
namespace Go.Proofs.YthkknpjoifoanaaGreatDoor
namespace Rows

/-- THE TIED CARD OF 'gleanlaw.Longest'. -/
def longestCard : Claim7 := { stood := { row := longestRow, standIns := [], harness := (true, "c2c4248f7deb09f1aa4a1c4c9a8f83a00635a15ac77b447ba924ad8d71cdb441"), looks := true }, kinds := [], alts := [], laidByText := true, laidKinds := [.sentinel, .sentinel, .data, .data, .data, .sentinel, .sentinel, .sentinel, .sentinel, .sentinel, .sentinel, .sentinel, .sentinel], laidTests := true, laidLooks := .later }
def LongestCardSaid : Prop := Claim7.holds Tryz.pinned (.plain (OpenSpec.ofChange longestSpec)) longestCard

/-- THE TIED CARD OF 'gleanlaw.Joined'. -/
def joinedCard : Claim7 := { stood := { row := joinedRow, standIns := [], harness := (true, "c2c4248f7deb09f1aa4a1c4c9a8f83a00635a15ac77b447ba924ad8d71cdb441"), looks := true }, kinds := [], alts := [], laidByText := true, laidKinds := [.sentinel, .sentinel, .data, .data, .data, .sentinel, .sentinel, .sentinel, .sentinel, .sentinel, .sentinel, .sentinel, .sentinel], laidTests := true, laidLooks := .later }
def JoinedCardSaid : Prop := Claim7.holds Tryz.pinned (.plain (OpenSpec.ofChange joinedSpec)) joinedCard

/-- THE SECOND FORM's CARD OF 'gleanlaw.Longest'. -/
def longestUptoCard : Claim7 := { stood := { row := longestUptoRow, standIns := [], harness := (true, "c2c4248f7deb09f1aa4a1c4c9a8f83a00635a15ac77b447ba924ad8d71cdb441"), looks := true }, kinds := [], alts := [], laidByText := true, laidKinds := [.sentinel, .sentinel, .data, .data, .data, .sentinel, .sentinel, .sentinel, .sentinel, .sentinel, .sentinel, .sentinel, .sentinel], laidTests := true, laidLooks := .later }
def LongestUptoCardSaid : Prop := Claim7.holds Tryz.pinned (.plain (OpenSpec.upto longestSpec)) longestUptoCard

/-- THE SECOND FORM's CARD OF 'gleanlaw.Joined'. -/
def joinedUptoCard : Claim7 := { stood := { row := joinedUptoRow, standIns := [], harness := (true, "c2c4248f7deb09f1aa4a1c4c9a8f83a00635a15ac77b447ba924ad8d71cdb441"), looks := true }, kinds := [], alts := [], laidByText := true, laidKinds := [.sentinel, .sentinel, .data, .data, .data, .sentinel, .sentinel, .sentinel, .sentinel, .sentinel, .sentinel, .sentinel, .sentinel], laidTests := true, laidLooks := .later }
def JoinedUptoCardSaid : Prop := Claim7.holds Tryz.pinned (.plain (OpenSpec.upto joinedSpec)) joinedUptoCard
end Rows
end Go.Proofs.YthkknpjoifoanaaGreatDoor
